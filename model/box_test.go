package model

import (
	"math"
	"math/rand/v2"
	"slices"
	"strings"
	"testing"

	"imago/abs"
	"imago/api"
	"imago/asm"
	"imago/code"
	"imago/kern"
	"imago/rest"
	"imago/snap"
	"imago/sys"
)

// most is for how many capabilities an environment pays.
const most = 42

// Errors, as calls answer them.
const (
	tellArg   = 65535
	tellNone  = 65534
	tellFull  = 65533
	tellMem   = 65532
	tellChild = 65531
	tellPipe  = 65530
	tellCall  = 65529
)

// far are numbers that are none of anything.
var far = []int{math.MinInt, -1 << 32, -1, 7, 256, 1 << 32, 1<<32 + 1, math.MaxInt}

// text is a program that is written in lines, with commas between them.
func text(t *testing.T, lines string) string {
	t.Helper()
	s, bad := asm.Read(strings.ReplaceAll(lines, ", ", "\n"))
	if bad != 0 {
		t.Fatalf("Read(%q): %d", lines, bad)
	}
	return s
}

// calls is a program that has the calls from 0 to 127: each one at twice its number.
func calls() string {
	var all []byte
	for n := range byte(128) {
		all = append(all, code.Call, n)
	}
	return string(all)
}

// more is a program that has the calls from 128 to 255.
func more() string {
	var all []byte
	for n := range 128 {
		all = append(all, code.Call, byte(n+128))
	}
	return string(all)
}

// Programs of a twin, besides those of a test.
const (
	ofCalls = iota
	ofMore
	ofMoves // load, loadw, store and storew: the address is in register 4, the value in register 5
	ofNothing
	own // the first one of a test
)

// twins are a system of environment 1 of a kernel, and a model of it.
type twins struct {
	t        *testing.T
	place    rest.Place
	s        *sys.System
	m        *Model
	quota    [3]int
	switched bool
}

// twinsOf are twins at their beginning, which may have so many frames and blocks, and have so many slices.
func twinsOf(t *testing.T, version, frames, blocks, slices int, programs ...string) *twins {
	t.Helper()
	all := append([]string{calls(), more(), text(t, "load r5 r4, loadw r5 r4, store r4 r5, storew r4 r5"), ""}, programs...)
	k, _ := kern.New(64, 64, 64)
	b := &twins{t: t, place: rest.Place{Kernel: k, Env: 1, Programs: all}, quota: [3]int{frames, blocks, slices}}
	if e := k.Open(1, version, b.quota); e != api.OK {
		t.Fatal(e)
	}
	for range slices {
		k.Do(1, kern.Call{What: kern.Bind, A: api.Slice})
	}
	var wrong, e api.Errno
	b.s, wrong = sys.New(k, 1, version, all)
	b.m, e = New(version, Limits{frames, blocks, most - slices}, all)
	if b.s == nil || b.m == nil || wrong != api.OK || e != api.OK {
		t.Fatalf("New: %v, %v; %v, %v", b.s, wrong, b.m, e)
	}
	b.same()
	return b
}

// plenty are twins with enough of all.
func plenty(t *testing.T, version int) *twins {
	t.Helper()
	return twinsOf(t, version, 24, 16, 1)
}

// versions runs a test of either version, and of version 2 to which was switched.
func versions(t *testing.T, test func(t *testing.T, version int, b *twins)) {
	t.Run("1", func(t *testing.T) { test(t, 1, plenty(t, 1)) })
	t.Run("2", func(t *testing.T) { test(t, 2, plenty(t, 2)) })
	t.Run("switched", func(t *testing.T) {
		b := plenty(t, 1)
		b.change()
		test(t, 2, b)
	})
}

// change changes the system to version 2, and switches the model.
func (b *twins) change() {
	b.t.Helper()
	s, e := rest.Whole(b.place, b.s, snap.Script)
	if e != api.OK {
		b.t.Fatalf("Whole: %v", e)
	}
	if e := b.m.Switch(); e != api.OK {
		b.t.Fatalf("Switch: %v", e)
	}
	b.s, b.switched = s, true
	b.place.Kernel.Change(1, 2)
	b.same()
}

// same wants that both have the same view and version, and that the environment has as many frames and blocks as the model counts.
func (b *twins) same() {
	b.t.Helper()
	if v, want := b.m.View(), abs.Of(b.s); !abs.Same(v, want) {
		b.t.Fatalf("View: %s:\n%v, not\n%v", abs.Where(v, want), v, want)
	}
	if v := b.m.Version(); v != b.s.State().Version {
		b.t.Fatalf("Version: %d", v)
	}
	k := b.place.Kernel
	frames, blocks := b.m.Used()
	if f, l := len(k.List(1, api.Frame)), len(k.List(1, api.Block)); frames != f || blocks != l {
		b.t.Fatalf("Used: %d, %d, not %d, %d", frames, blocks, f, l)
	}
}

// step does a step of both, which must tell the same.
func (b *twins) step(pid int) sys.Event {
	b.t.Helper()
	before, c := b.m.View(), b.m.proc(pid)
	want := b.s.Step(pid)
	e := b.m.Step(pid)
	if e != want {
		b.t.Fatalf("Step(%d): %v, not %v; %v of %v", pid, e, want, c, before)
	}
	b.same()
	return e
}

// proc is what a process is by itself; zero, if it is not there.
func (m *Model) proc(pid int) sys.Proc {
	for _, p := range m.all() {
		if p.PID == pid {
			return p.Proc
		}
	}
	return sys.Proc{}
}

// is wants an event.
func (b *twins) is(e, want sys.Event) {
	b.t.Helper()
	if e != want {
		b.t.Fatalf("%v, not %v", e, want)
	}
}

// sets makes a process go on so, in both.
func (b *twins) sets(pid, program int, c api.CPU) {
	b.t.Helper()
	st := b.s.State()
	for i := range st.Procs {
		if st.Procs[i].PID == pid {
			st.Procs[i].Program, st.Procs[i].CPU = program, c
		}
	}
	s, e := sys.Load(b.place.Kernel, 1, b.place.Programs, st)
	if e != api.OK {
		b.t.Fatalf("Load: %v", e)
	}
	b.s = s
	b.m.procs[pid-1].Program, b.m.procs[pid-1].CPU = program, c
}

// turn makes the next step of a process that of a call.
func (b *twins) turn(pid, n int, args ...int) {
	b.t.Helper()
	c := api.CPU{R: [8]uint16{9, 9, 9, 9, 4, 5, 6, 7}, PC: uint16(n % 128 * 2)}
	for i, v := range args {
		c.R[i+1] = uint16(v)
	}
	b.sets(pid, n/128, c)
}

// puts does a call that is answered so, and puts that out.
func (b *twins) puts(output string, pid, n, want int, args ...int) {
	b.t.Helper()
	b.turn(pid, n, args...)
	after := b.m.proc(pid).CPU
	after.PC += 2
	after.R[0] = uint16(want)
	b.is(b.step(pid), sys.Event{Kind: sys.Done, PID: pid, Call: n, Result: want, Output: output})
	if n == 4 && want == 0 { // of exec
		after = api.CPU{}
	}
	if c := b.m.proc(pid).CPU; c != after {
		b.t.Fatalf("registers %v, not %v", c, after)
	}
}

// does does a call that is answered so.
func (b *twins) does(pid, n, want int, args ...int) {
	b.t.Helper()
	b.puts("", pid, n, want, args...)
}

// fails does a call that is answered with an error, and changes nothing.
func (b *twins) fails(pid, n, want int, args ...int) {
	b.t.Helper()
	b.turn(pid, n, args...)
	b.m.procs[pid-1].CPU.R[0] = uint16(want)
	b.m.procs[pid-1].CPU.PC += 2
	before := b.m.View()
	b.does(pid, n, want, args...)
	if after := b.m.View(); !abs.Same(before, after) {
		b.t.Fatalf("call %d of %v: %v, not %v", n, args, after, before)
	}
}

// waits does a call that must wait: again and again the same, and nothing changes.
func (b *twins) waits(pid, n int, args ...int) {
	b.t.Helper()
	b.turn(pid, n, args...)
	before := b.m.View()
	for range 3 {
		b.is(b.step(pid), sys.Event{Kind: sys.Blocked, PID: pid, Call: n})
		if after := b.m.View(); !abs.Same(before, after) {
			b.t.Fatalf("%v, not %v", after, before)
		}
	}
}

// ends wants that the next step of a process ends it with a status.
func (b *twins) ends(pid, status int) {
	b.t.Helper()
	b.is(b.step(pid), sys.Event{Kind: sys.Exited, PID: pid, Result: status})
}

// exits ends a process by its own call.
func (b *twins) exits(pid, status int) {
	b.t.Helper()
	b.turn(pid, 1, status)
	b.ends(pid, status&255)
}

// Instructions that move bytes, by their places in their program.
const (
	load   = 0
	loadW  = 2
	store  = 4
	storeW = 6
)

// moves makes the next step of a process one that moves bytes.
func (b *twins) moves(pid, at, addr, v int) {
	b.t.Helper()
	b.sets(pid, ofMoves, api.CPU{R: [8]uint16{4: uint16(addr), 5: uint16(v)}, PC: uint16(at)})
}

// stores writes a byte of a process's memory.
func (b *twins) stores(pid, addr, v int) {
	b.t.Helper()
	b.moves(pid, store, addr, v)
	b.is(b.step(pid), sys.Event{Kind: sys.Ran, PID: pid})
}

// fills writes bytes of a process's memory.
func (b *twins) fills(pid, addr int, bytes string) {
	b.t.Helper()
	for i := range len(bytes) {
		b.stores(pid, addr+i, int(bytes[i]))
	}
}

// has wants that bytes stand at an address of a process.
func (b *twins) has(pid, addr int, bytes string) {
	b.t.Helper()
	for _, p := range b.m.View().Procs {
		if p.PID == pid && len(p.Memory) == 256 && p.Memory[addr:addr+len(bytes)] == bytes {
			return
		}
	}
	b.t.Fatalf("Memory of %d: not %q at %d: %v", pid, bytes, addr, b.m.View())
}

// used wants that so many frames and blocks count.
func (b *twins) used(frames, blocks int) {
	b.t.Helper()
	if f, l := b.m.Used(); f != frames || l != blocks {
		b.t.Fatalf("Used: %d, %d, not %d, %d", f, l, frames, blocks)
	}
}

// files wants these bytes of files that are there, by their numbers; - of one that is not there.
func (b *twins) files(want ...string) {
	b.t.Helper()
	has := []string{"-", "-", "-", "-"}
	for _, f := range b.m.View().Files {
		has[f.ID] = f.Data
	}
	for len(want) < 4 {
		want = append(want, "-")
	}
	if !slices.Equal(has, want) {
		b.t.Fatalf("files %q, not %q", has, want)
	}
}

// pipes wants these bytes of pipes that are there, by their numbers; - of one that is not there.
func (b *twins) pipes(want ...string) {
	b.t.Helper()
	has := []string{"-", "-", "-"}
	for _, p := range b.m.View().Pipes {
		has[p.ID] = p.Data
	}
	for len(want) < 3 {
		want = append(want, "-")
	}
	if !slices.Equal(has, want) {
		b.t.Fatalf("pipes %q, not %q", has, want)
	}
}

// slots wants a process's descriptors, slot by slot: each kind, obj and off in one number; -1 where none stands.
func (b *twins) slots(pid int, want ...int) {
	b.t.Helper()
	has := []int{-1, -1, -1, -1, -1, -1}
	for _, p := range b.m.View().Procs {
		for _, s := range p.Slots {
			if p.PID == pid {
				has[s.Slot] = s.Kind*10000 + s.Obj*100 + s.Off
			}
		}
	}
	for len(want) < 6 {
		want = append(want, -1)
	}
	if !slices.Equal(has, want) {
		b.t.Fatalf("slots of %d: %v, not %v", pid, has, want)
	}
}

// zones wants a process's areas: each first page, count, and whether it may be written (3, else 1) in one number.
func (b *twins) zones(pid int, want ...int) {
	b.t.Helper()
	var has []int
	for _, p := range b.m.View().Procs {
		for _, a := range p.Areas {
			n := a.First*10000 + a.Count*100 + 1
			if a.Write {
				n += 2
			}
			if p.PID == pid {
				has = append(has, n)
			}
		}
	}
	if !slices.Equal(has, want) {
		b.t.Fatalf("areas of %d: %v, not %v", pid, has, want)
	}
}

// shared wants this row of places.
func (b *twins) shared(want ...int) {
	b.t.Helper()
	if l := b.m.View().Shared; !slices.Equal(l, want) {
		b.t.Fatalf("Shared: %v, not %v", l, want)
	}
}

// of2 is the first of two numbers in version 1, else the other one.
func of2(version, first, other int) int {
	if version == 1 {
		return first
	}
	return other
}

// dice throws what tests are made of; the same at each run.
type dice struct{ *rand.Rand }

func throw(seed uint64) dice { return dice{rand.New(rand.NewPCG(seed, 35))} }

// args are arguments of a call that are mostly such as may be right.
func (d dice) args(n int) [3]int {
	if d.IntN(40) == 0 {
		return [3]int{d.IntN(65536), d.IntN(65536), d.IntN(65536)}
	}
	slot, addr := d.IntN(7), d.IntN(80)
	switch n {
	case 4:
		return [3]int{d.IntN(12), 0, 0}
	case 5:
		return [3]int{d.IntN(5), d.IntN(9) / 4, 0}
	case 11:
		return [3]int{slot, d.IntN(36), 0}
	case 12:
		return [3]int{d.IntN(d.IntN(16)+2) + 1, 0, 0}
	case 13, 17:
		return [3]int{d.IntN(9) * 16, 1 + 2*d.IntN(2) + d.IntN(8)/7, 0}
	case 15:
		return [3]int{slot, d.IntN(7), 0}
	case 16:
		return [3]int{slot, (d.IntN(40) - 20) & 65535, 0}
	}
	return [3]int{slot, addr, d.IntN(18)}
}

// call is the number of a call; those that end processes are rarer.
func (d dice) call() int {
	n := d.IntN(18)
	switch {
	case n == 1 && d.IntN(4) > 0, n == 4 && d.IntN(2) > 0:
		return 7 + d.IntN(2)
	case d.IntN(300) == 0:
		return d.IntN(256)
	}
	return n
}

// program is one that does calls, and reads and writes memory between them, round and round.
func (d dice) program() string {
	var l []code.Inst
	for size(l) < 225 {
		switch what := d.IntN(10); {
		case what < 6:
			n := d.call()
			for i, v := range d.args(n) {
				l = append(l, code.Inst{Op: code.Set, A: i + 1, N: v})
			}
			l = append(l, code.Inst{Op: code.Call, N: n})
		case what < 8:
			l = append(l, code.Inst{Op: code.Set, A: 4, N: d.IntN(66)}, code.Inst{Op: code.Load + d.IntN(4), A: 4, B: 4})
		case what < 9:
			l = append(l, code.Inst{Op: code.Add, A: d.IntN(8), B: d.IntN(8)}, code.Inst{Op: code.Zero, A: d.IntN(8), N: 4}, code.Inst{Op: code.Set, A: 7, N: 9})
		case d.IntN(3) > 0:
			l = append(l, code.Inst{Op: code.Store + 2*d.IntN(2), A: 1 + d.IntN(3), B: 2})
		case d.IntN(2) == 0:
			l = append(l, code.Inst{Op: code.Zero, A: d.IntN(8), N: 1}, code.Inst{Op: code.Stop})
		default:
			l = append(l, code.Inst{Op: code.Other, A: d.IntN(8), N: 65535}) // into its own bytes: most often no instruction
		}
	}
	s, _ := code.Join(append(l, code.Inst{Op: code.Jump, N: 65536 - size(l) - 3}))
	return s
}

// size is how many bytes instructions have.
func size(l []code.Inst) int {
	s, _ := code.Join(l)
	return len(s)
}
