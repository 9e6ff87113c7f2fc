package sys

import (
	"math"
	"reflect"
	"slices"
	"strings"
	"testing"

	"imago/api"
	"imago/asm"
	"imago/kern"
	"imago/opens"
)

// far are numbers that are none of anything.
var far = []int{math.MinInt, -1, 17, 1 << 32, math.MaxInt}

// noProcs are numbers that are no process.
var noProcs = append([]int{0, 7}, far...)

// halves are programs that have all calls: call n at 2n, and 256 bytes further on in the other one.
func halves() []string {
	var all strings.Builder
	for n := range 256 {
		all.WriteString("\x14")
		all.WriteByte(byte(n))
	}
	return []string{all.String()[:256], all.String()[256:]}
}

// text is a program that is written in lines, with commas between them.
func text(t *testing.T, lines string) string {
	t.Helper()
	s, bad := asm.Read(strings.ReplaceAll(lines, ", ", "\n"))
	if bad != 0 {
		t.Fatalf("Read(%q): %d", lines, bad)
	}
	return s
}

// machine is a kernel with environment 1, which may have so many frames and blocks, and another one that has some.
func machine(t *testing.T, version, frames, blocks int) *kern.Kernel {
	t.Helper()
	k, e := kern.New(40, 40, 4)
	if e != api.OK || k.Open(1, version, [3]int{frames, blocks, 1}) != api.OK || k.Open(2, 1, [3]int{3, 3, 1}) != api.OK {
		t.Fatal("no machine")
	}
	for _, kind := range []int{api.Frame, api.Block} {
		k.Do(2, kern.Call{What: kern.Bind, A: kind})
	}
	return k
}

// box is a system of environment 1, with its kernel.
type box struct {
	t        *testing.T
	k        *kern.Kernel
	s        *System
	programs []string
}

// boxOf is a box of a new system.
func boxOf(t *testing.T, version, frames, blocks int, programs ...string) *box {
	t.Helper()
	k := machine(t, version, frames, blocks)
	s, e := New(k, 1, version, programs)
	if s == nil || e != api.OK {
		t.Fatalf("New: %v, %v", s, e)
	}
	b := &box{t, k, s, programs}
	b.sound()
	return b
}

// callBox is a box of a new system whose programs 0 and 1 have all calls; with enough of all.
func callBox(t *testing.T, version int) *box {
	t.Helper()
	return boxOf(t, version, 24, 16, append(halves(), "", "\x00")...)
}

// versions runs a test of either version.
func versions(t *testing.T, test func(t *testing.T, version int)) {
	t.Run("1", func(t *testing.T) { test(t, 1) })
	t.Run("2", func(t *testing.T) { test(t, 2) })
}

// of2 is the first of two numbers in version 1, else the other one.
func of2(version, first, other int) int {
	if version == 1 {
		return first
	}
	return other
}

// alike tells whether two states are the same; a list without an element may be nil or empty.
func alike(a, b State) bool {
	for _, s := range []*State{&a, &b} {
		v := reflect.ValueOf(s).Elem()
		for i := range v.NumField() {
			if f := v.Field(i); f.Kind() == reflect.Slice && f.Len() == 0 {
				f.SetZero()
			}
		}
		s.Files = slices.Clone(s.Files)
		for i := range s.Files {
			if len(s.Files[i].Blocks) == 0 {
				s.Files[i].Blocks = nil
			}
		}
	}
	return reflect.DeepEqual(a, b)
}

// sound wants what is always so: the environment has just the frames and blocks of its system's tables (28.5), and these load (28.6).
func (b *box) sound() {
	b.t.Helper()
	st := b.s.State()
	var frames, blocks []int
	for _, e := range st.Pages {
		frames = append(frames, e.Frame)
	}
	for _, i := range st.Files {
		blocks = append(blocks, i.Blocks...)
	}
	slices.Sort(frames)
	slices.Sort(blocks)
	if has := b.k.List(1, api.Frame); !slices.Equal(has, slices.Compact(frames)) {
		b.t.Fatalf("frames %v, with pages %v", has, st.Pages)
	}
	if has := b.k.List(1, api.Block); !slices.Equal(has, blocks) {
		b.t.Fatalf("blocks %v, with files %v", has, st.Files)
	}
	if s, e := Load(b.k, 1, b.programs, st); e != api.OK || !alike(s.State(), st) {
		b.t.Fatalf("Load: %v: %v", e, st)
	}
}

// turn makes the next step of a process that of a call.
func (b *box) turn(pid, n int, args ...int) {
	b.t.Helper()
	b.sets(pid, func(p *Proc) {
		p.Program = n / 128
		p.CPU = api.CPU{R: [8]uint16{9, 9, 9, 9, 4, 5, 6, 7}, PC: uint16(n % 128 * 2)}
		for i, v := range args {
			p.CPU.R[i+1] = uint16(v)
		}
	})
}

// sets changes a process.
func (b *box) sets(pid int, change func(p *Proc)) {
	b.t.Helper()
	b.loads(func(st *State) {
		for i := range st.Procs {
			if st.Procs[i].PID == pid {
				change(&st.Procs[i])
			}
		}
	})
}

// loads changes the system's tables.
func (b *box) loads(change func(st *State)) {
	b.t.Helper()
	st := b.s.State()
	change(&st)
	s, e := Load(b.k, 1, b.programs, st)
	if e != api.OK {
		b.t.Fatalf("Load: %v: %v", e, st)
	}
	b.s = s
}

// step does a step.
func (b *box) step(pid int) Event {
	b.t.Helper()
	e := b.s.Step(pid)
	b.sound()
	return e
}

// is wants an event.
func (b *box) is(e, want Event) {
	b.t.Helper()
	if e != want {
		b.t.Fatalf("%v, not %v", e, want)
	}
}

// runs wants that so many steps of a process tell Ran.
func (b *box) runs(pid, steps int) {
	b.t.Helper()
	for range steps {
		b.is(b.step(pid), Event{Kind: Ran, PID: pid})
	}
}

// ends wants that a step of a process ends it with a status.
func (b *box) ends(pid, status int) {
	b.t.Helper()
	b.is(b.step(pid), Event{Kind: Exited, PID: pid, Result: status})
}

// exits ends a process by its own call.
func (b *box) exits(pid, status int) {
	b.t.Helper()
	b.turn(pid, 1, status)
	b.ends(pid, status)
}

// proc is a process of a state, or a zero one.
func proc(st State, pid int) Proc {
	for _, p := range st.Procs {
		if p.PID == pid {
			return p
		}
	}
	return Proc{}
}

// puts does a call that is answered so, and puts that out.
func (b *box) puts(output string, pid, n, want int, args ...int) {
	b.t.Helper()
	b.turn(pid, n, args...)
	after := proc(b.s.State(), pid).CPU
	after.PC += 2
	after.R[0] = uint16(want)
	b.is(b.step(pid), Event{Kind: Done, PID: pid, Call: n, Result: want, Output: output})
	if n == 4 && want == 0 { // of exec
		after = api.CPU{}
	}
	if c := proc(b.s.State(), pid).CPU; c != after {
		b.t.Fatalf("registers %v, not %v", c, after)
	}
}

// does does a call that is answered so.
func (b *box) does(pid, n, want int, args ...int) {
	b.t.Helper()
	b.puts("", pid, n, want, args...)
}

// Errors, as calls answer them.
const (
	tellArg   = 65535
	tellNone  = 65534
	tellFull  = 65533
	tellMem   = 65532
	tellChild = 65531
	tellPipe  = 65530
	tellCall  = 65529
)

// fails does a call that is answered with an error, and changes nothing.
func (b *box) fails(pid, n, want int, args ...int) {
	b.t.Helper()
	before, memory := b.s.State(), b.memory()
	b.does(pid, n, want, args...)
	after := b.s.State()
	for i, p := range after.Procs {
		if p.PID == pid {
			after.Procs[i].CPU = before.Procs[i].CPU
			after.Procs[i].Program = before.Procs[i].Program
		}
	}
	if !alike(before, after) || b.memory() != memory {
		b.t.Fatalf("call %d of %v: %v, not %v", n, args, after, before)
	}
}

// waits does a call that must wait: twice the same, and nothing changes.
func (b *box) waits(pid, n int, args ...int) {
	b.t.Helper()
	b.turn(pid, n, args...)
	before, memory := b.s.State(), b.memory()
	for range 3 {
		b.is(b.step(pid), Event{Kind: Blocked, PID: pid, Call: n})
		if after := b.s.State(); !alike(before, after) || b.memory() != memory {
			b.t.Fatalf("%v, not %v", after, before)
		}
	}
}

// memory is all bytes that the system has: those of processes, and of files.
func (b *box) memory() [10]string {
	var all [10]string
	for pid := range 6 {
		all[pid] = b.s.Memory(pid + 1)
	}
	for id := range 4 {
		all[6+id], _ = b.s.File(id)
	}
	return all
}

// writes puts bytes into a process's memory.
func (b *box) writes(pid, addr int, bytes string) {
	b.t.Helper()
	if e := b.s.pages.Write(pid, addr, bytes); e != api.OK {
		b.t.Fatalf("Write(%d, %d, %q): %v", pid, addr, bytes, e)
	}
}

// has wants that bytes stand at an address of a process.
func (b *box) has(pid, addr int, bytes string) {
	b.t.Helper()
	if m := b.s.Memory(pid); len(m) != 256 || m[addr:addr+len(bytes)] != bytes {
		b.t.Fatalf("Memory(%d): %q, not %q at %d", pid, m, bytes, addr)
	}
}

// file wants that a file has these bytes.
func (b *box) file(id int, want string) {
	b.t.Helper()
	if s, e := b.s.File(id); s != want || e != api.OK {
		b.t.Fatalf("File(%d): %q, %v, not %q", id, s, e, want)
	}
}

// pipe wants that a pipe is there, and what waits in it.
func (b *box) pipe(id int, want string) {
	b.t.Helper()
	for _, i := range b.s.State().Pipes {
		if i.ID == id && i.Data == want {
			return
		}
	}
	b.t.Fatalf("pipes %v, none %d with %q", b.s.State().Pipes, id, want)
}

// pipes wants that so many pipes are there.
func (b *box) pipes(want int) {
	b.t.Helper()
	if l := b.s.State().Pipes; len(l) != want {
		b.t.Fatalf("pipes %v, not %d", l, want)
	}
}

// hold is a descriptor, whichever version it is of.
type hold struct{ pid, slot, kind, obj, off int }

// holds are a state's descriptors, and for each of them the first one that shares its place.
func holds(st State) ([]hold, []int) {
	var l []hold
	var shared []int
	for i, d := range st.Desc {
		l = append(l, hold{d.PID, d.Slot, d.Kind, d.Obj, d.Off})
		shared = append(shared, i)
	}
	for i, s := range st.Slots {
		for _, o := range st.Opens {
			if o.ID == s.Open {
				l = append(l, hold{s.PID, s.Slot, o.Kind, o.Obj, o.Off})
			}
		}
		first := slices.IndexFunc(st.Slots, func(other opens.Slot) bool { return other.Open == s.Open })
		shared = append(shared, min(first, i))
	}
	return l, shared
}

// slots wants a process's descriptors, slot by slot: each kind, obj and off in one number; -1 where none stands.
func (b *box) slots(pid int, want ...int) {
	b.t.Helper()
	has := []int{-1, -1, -1, -1, -1, -1}
	l, _ := holds(b.s.State())
	for _, h := range l {
		if h.pid == pid {
			has[h.slot] = h.kind*10000 + h.obj*100 + h.off
		}
	}
	for len(want) < 6 {
		want = append(want, -1)
	}
	if !slices.Equal(has, want) {
		b.t.Fatalf("slots of %d: %v, not %v", pid, has, want)
	}
}

// zones wants a process's areas, in the order in which they are told: each first page, count and Prot in one number.
func (b *box) zones(pid int, want ...int) {
	b.t.Helper()
	var has []int
	st := b.s.State()
	for _, a := range st.Areas {
		if a.PID == pid {
			has = append(has, a.First*10000+a.Count*100+3)
		}
	}
	for _, a := range st.Spans {
		if a.PID == pid {
			has = append(has, a.First*10000+a.Count*100+a.Prot)
		}
	}
	if !slices.Equal(has, want) {
		b.t.Fatalf("areas of %d: %v, not %v", pid, has, want)
	}
}
