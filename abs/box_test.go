package abs

import (
	"slices"
	"strings"
	"testing"

	"imago/api"
	"imago/asm"
	"imago/kern"
	"imago/sys"
)

// programs have all calls: call n of program 0 at 2n, 128 calls further on in program 1. Program 2 has what reads and writes memory; program 3 is nothing.
func programs(t *testing.T) []string {
	t.Helper()
	var all strings.Builder
	for n := range 256 {
		all.WriteString("\x14")
		all.WriteByte(byte(n))
	}
	memory, bad := asm.Read("store r1 r2\nload r1 r2\nstorew r1 r2\nloadw r1 r2\nstop")
	if bad != 0 {
		t.Fatal(bad)
	}
	return []string{all.String()[:256], all.String()[256:], memory, ""}
}

// box is a system of environment 1, with its kernel.
type box struct {
	t *testing.T
	k *kern.Kernel
	s *sys.System
}

// machine is a kernel in which environment 1 may have as much as one environment can.
func machine(t *testing.T, version int) *kern.Kernel {
	t.Helper()
	k, e := kern.New(64, 64, 4)
	if e != api.OK || k.Open(1, version, [3]int{25, 16, 1}) != api.OK {
		t.Fatal("no machine")
	}
	return k
}

// start is a box of a new system.
func start(t *testing.T, version int) *box {
	t.Helper()
	k := machine(t, version)
	s, e := sys.New(k, 1, version, programs(t))
	if e != api.OK {
		t.Fatal(e)
	}
	return &box{t, k, s}
}

// versions runs a test of either version.
func versions(t *testing.T, test func(t *testing.T, version int)) {
	t.Run("1", func(t *testing.T) { test(t, 1) })
	t.Run("2", func(t *testing.T) { test(t, 2) })
}

// of2 is the first of two things in version 1, else the other one.
func of2[T any](version int, first, other T) T {
	if version == 1 {
		return first
	}
	return other
}

// load makes the system one of other tables.
func (b *box) load(st sys.State) {
	b.t.Helper()
	s, e := sys.Load(b.k, 1, programs(b.t), st)
	if e != api.OK {
		b.t.Fatalf("Load: %v: %v", e, st)
	}
	b.s = s
}

// move is a step of a process that goes on with that program and these registers.
type move struct {
	pid, program int
	cpu          api.CPU
}

// do does it; of a process that is not alive as it is.
func (b *box) do(m move) sys.Event {
	b.t.Helper()
	st := b.s.State()
	for i, p := range st.Procs {
		if p.PID == m.pid && !p.Ended {
			st.Procs[i].Program, st.Procs[i].CPU = m.program, m.cpu
		}
	}
	b.load(st)
	return b.s.Step(m.pid)
}

// call is a move that does a call.
func call(pid, n int, args ...int) move {
	m := move{pid: pid, program: n / 128, cpu: api.CPU{PC: uint16(n % 128 * 2)}}
	for i, v := range args {
		m.cpu.R[i+1] = uint16(v)
	}
	return m
}

// does does a call that is answered so.
func (b *box) does(pid, n, want int, args ...int) {
	b.t.Helper()
	if e := b.do(call(pid, n, args...)); e.Kind != sys.Done || e.Result != want {
		b.t.Fatalf("call %d of %v: %v, not %d", n, args, e, want)
	}
}

// exits ends a process.
func (b *box) exits(pid, status int) {
	b.t.Helper()
	if e := b.do(call(pid, 1, status)); e.Kind != sys.Exited || e.Result != status {
		b.t.Fatal(e)
	}
}

// store puts a byte into a process's memory.
func (b *box) store(pid, addr int, c byte) {
	b.t.Helper()
	m := move{pid: pid, program: 2}
	m.cpu.R[1], m.cpu.R[2] = uint16(addr), uint16(c)
	if e := b.do(m); e.Kind != sys.Ran {
		b.t.Fatal(e)
	}
}

// registers are unlike ones for each process.
func registers(pid int) api.CPU {
	c := api.CPU{PC: uint16(300 * pid)}
	for i := range c.R {
		c.R[i] = uint16(65535 - 10*pid - i)
	}
	return c
}

// bytes are n bytes 0, but for those of some places.
func bytes(n int, those map[int]byte) string {
	b := make([]byte, n)
	for at, c := range those {
		b[at] = c
	}
	return string(b)
}

// family is a box of a system with some of all: processes 1, 2 and 4 are alive, 3 has ended.
func family(t *testing.T, version int) *box {
	t.Helper()
	b := start(t, version)
	b.does(1, 12, 64, 2) // map
	b.does(1, 12, 96, 3)
	b.does(1, 13, 0, 0) // unmap: the area of 4 pages
	b.does(1, 12, 0, 1) // the last one is the first in memory
	b.store(1, 3, 'a')
	b.store(1, 70, 'b')
	b.store(1, 143, 'c')
	b.does(1, 5, 2, 2, 0)     // open
	b.does(1, 8, 9, 2, 64, 9) // write
	b.does(1, 5, 3, 0, 0)
	b.does(1, 9, 1284) // pipe
	b.does(1, 8, 4, 5, 68, 4)
	b.does(1, 2, 2) // fork
	b.does(1, 2, 3)
	b.exits(3, 7)
	b.does(2, 6, 0, 4) // close
	b.does(2, 6, 0, 5)
	b.does(2, 9, 1284)
	b.does(2, 6, 0, 0)
	b.does(2, 10, 0, 2)    // dup
	b.does(2, 11, 3, 2, 3) // seek
	b.store(2, 70, 'x')
	if version == 2 {
		b.does(2, 17, 0, 64, 1) // protect
	}
	b.does(2, 2, 4)
	b.does(4, 4, 0, 2) // exec
	st := b.s.State()
	for i, p := range st.Procs {
		st.Procs[i].CPU = registers(p.PID)
		st.Procs[i].Program = p.PID - 1
	}
	b.load(st)
	return b
}

// familyView is its view, as the chapter's words tell it.
func familyView(version int) View {
	memory := func(c byte) string { return bytes(256, map[int]byte{3: 'a', 70: c, 143: 'c'}) }
	file := of2(version, 9, 3) // where the place is that version 2 shares
	shared := []int{0, 1, 2, 3, 4, 5, 2, 1, 2, 3, 10, 11, 2, 1, 2, 3, 10, 11}
	if version == 1 {
		for i := range shared {
			shared[i] = i
		}
	}
	child := []Slot{{0, 2, 2, file}, {1, 1, 0, 0}, {2, 2, 2, 3}, {3, 2, 0, 0}, {4, 3, 1, 0}, {5, 4, 1, 0}}
	return View{
		Procs: []Proc{
			{
				PID: 1, CPU: registers(1), Memory: memory('b'),
				Areas: []Area{{0, 1, true}, {4, 2, true}, {6, 3, true}},
				Slots: []Slot{{0, 1, 0, 0}, {1, 1, 0, 0}, {2, 2, 2, file}, {3, 2, 0, 0}, {4, 3, 0, 0}, {5, 4, 0, 0}},
			}, {
				PID: 2, Parent: 1, Program: 1, CPU: registers(2), Memory: memory('x'),
				Areas: []Area{{0, 1, true}, {4, 2, version == 1}, {6, 3, true}},
				Slots: child,
			},
			{PID: 3, Parent: 1, Program: 2, Ended: true, Status: 7, CPU: registers(3)},
			{
				PID: 4, Parent: 2, Program: 3, CPU: registers(4), Memory: bytes(256, nil),
				Areas: []Area{{0, 4, true}},
				Slots: slices.Clone(child),
			},
		},
		Files:  []Thing{{0, ""}, {2, bytes(9, map[int]byte{6: 'b'})}},
		Pipes:  []Thing{{0, bytes(4, map[int]byte{2: 'b'})}, {1, ""}},
		Shared: shared,
	}
}
