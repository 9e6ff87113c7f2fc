package upgrade

import (
	"math"
	"math/rand/v2"
	"reflect"
	"slices"
	"strings"
	"testing"

	"imago/api"
	"imago/asm"
	"imago/caps"
	"imago/code"
	"imago/kern"
	"imago/rest"
	"imago/snap"
	"imago/sys"
)

// far are numbers that are none of anything.
var far = []int{math.MinInt, -1 << 32, -1, 64, 255, 256, 1 << 32, 1<<32 + 1, math.MaxInt}

// enough is space for any state.
const enough = 2 * api.MaxBytes

// text is a program that is written in lines, with commas between them.
func text(t *testing.T, lines string) string {
	t.Helper()
	s, bad := asm.Read(strings.ReplaceAll(lines, ", ", "\n"))
	if bad != 0 {
		t.Fatalf("Read(%q): %d", lines, bad)
	}
	return s
}

// machine is a kernel in which environment 1 may have so many frames and blocks, and has a slice. Environment 2 has some of all.
func machine(t *testing.T, version, frames, blocks int) *kern.Kernel {
	t.Helper()
	k, e := kern.New(40, 40, 4)
	if e != api.OK || k.Open(1, version, [3]int{frames, blocks, 1}) != api.OK || k.Open(2, 1, [3]int{3, 3, 1}) != api.OK {
		t.Fatal("no machine")
	}
	for kind := api.Frame; kind <= api.Slice; kind++ {
		k.Do(2, kern.Call{What: kern.Bind, A: kind})
		if kind == api.Slice {
			k.Do(1, kern.Call{What: kern.Bind, A: kind})
		}
	}
	k.Do(2, kern.Call{What: kern.Set, H: k.Root(api.Frame, 0), A: 5, B: 7})
	return k
}

// resource is what a kernel tells of one.
type resource struct {
	owner int
	root  caps.Handle
	bytes string
}

// picture is all that a kernel tells, but for its queues.
type picture struct {
	versions [4]int // 0: it is not open
	bound    [4][64]resource
	spare    [3]int
	turns    [8]int
}

// pictureOf is a kernel's picture.
func pictureOf(k *kern.Kernel) picture {
	p := picture{spare: k.Spare()}
	for env := 1; env <= api.MaxEnvs; env++ {
		p.versions[env], _ = k.Version(env)
		for kind := api.Frame; kind <= api.Slice; kind++ {
			for _, n := range k.List(env, kind) {
				x := resource{owner: env, root: k.Root(kind, n)}
				switch kind {
				case api.Frame:
					x.bytes = k.Do(env, kern.Call{What: kern.Page, H: x.root}).S
				case api.Block:
					x.bytes = k.Do(env, kern.Call{What: kern.Read, H: x.root}).S
				}
				p.bound[kind][n] = x
			}
		}
	}
	for i := range p.turns {
		p.turns[i] = k.Turn(i)
	}
	return p
}

// identical tells whether two states are the same; a list without an element may be nil or empty.
func identical(a, b sys.State) bool {
	for _, s := range []*sys.State{&a, &b} {
		s.Files = slices.Clone(s.Files)
		for i := range s.Files {
			s.Files[i].Blocks = slices.Concat(s.Files[i].Blocks)
		}
		v := reflect.ValueOf(s).Elem()
		for i := range v.NumField() {
			if f := v.Field(i); f.Kind() == reflect.Slice && f.Len() == 0 {
				f.SetZero()
			}
		}
	}
	return reflect.DeepEqual(a, b)
}

// memory is all bytes that a system has: those of processes, and of files.
func memory(s *sys.System) [10]string {
	var all [10]string
	for pid := range 6 {
		all[pid] = s.Memory(pid + 1)
	}
	for id := range 4 {
		all[6+id], _ = s.File(id)
	}
	return all
}

// box is a manager in its place.
type box struct {
	t *testing.T
	p rest.Place
	m *Manager
}

// start is a box of a new system.
func start(t *testing.T, version, frames, blocks int, programs ...string) *box {
	t.Helper()
	p := rest.Place{Kernel: machine(t, version, frames, blocks), Env: 1, Programs: programs}
	m, e := New(p, version)
	if m == nil || e != api.OK {
		t.Fatalf("New: %v, %v", m, e)
	}
	return &box{t, p, m}
}

// family is a box of a system of version 1 with some of all, behind so many more steps of its two processes in turn: process 1 has areas out of order, process 2 shares most of its pages, one file has two blocks and one has none, bytes wait in a pipe. All that process 1 does then is what both versions answer.
func family(t *testing.T, more int) *box {
	t.Helper()
	first := text(t, "set r1 2, call 12, set r1 3, call 12, set r1 0, call 13, set r1 1, call 12, "+ // map 4 and 6, unmap 0, map 0
		"set r4 3, set r5 97, store r4 r5, set r4 70, store r4 r5, set r4 143, store r4 r5, "+
		"set r1 2, set r2 0, call 5, set r1 2, set r2 64, set r3 9, call 8, "+ // open, write
		"set r1 0, set r2 0, call 5, call 9, set r1 5, set r2 68, set r3 4, call 8, "+ // open, pipe, write
		"call 2, zero r0 child, "+ // fork
		"loop:, call 14, add r5 r0, store r4 r5, set r1 2, set r2 0, call 11, set r2 143, set r3 1, call 8, jump loop, "+ // pid, seek, write
		"child:, set r4 70, store r4 r5, again:, add r5 r4, storew r4 r5, jump again")
	b := start(t, 1, 12, 6, first, "\x00")
	for range 35 {
		if e, _ := b.m.Slice(1); e.Kind != sys.Ran && e.Kind != sys.Done {
			t.Fatal(e)
		}
	}
	for range 3 {
		b.m.Slice(2)
	}
	for i := range more {
		b.m.Slice(1 + i%2)
	}
	st := b.m.System().State()
	if len(st.Procs) != 2 || len(st.Files) != 2 || len(st.Files[1].Blocks) != 2 || len(st.Pipes) != 1 || len(st.Pages) != 6 || len(st.Desc) != 12 || len(st.Areas) != 6 || len(b.p.Kernel.List(1, api.Frame)) != 5 {
		t.Fatalf("%v", st)
	}
	return b
}

// right is a wish that comes true.
func right() Wish { return Wish{Script: snap.Script, Tries: 1, Space: enough} }

// asks asks for a change, and wants that to be answered so.
func (b *box) asks(w Wish, want api.Errno) {
	b.t.Helper()
	busy, st := b.m.Busy(), b.m.System().State()
	if e := b.m.Ask(w); e != want {
		b.t.Fatalf("Ask(%v): %v, not %v", w, e, want)
	}
	if b.m.Busy() != (busy || want == api.OK) || !identical(b.m.System().State(), st) {
		b.t.Fatalf("Ask(%v): Busy is %v", w, b.m.Busy())
	}
}

// fails has phases fail.
func (b *box) fails(phases ...int) {
	b.t.Helper()
	for _, phase := range phases {
		busy := b.m.Busy()
		if e := b.m.Fail(phase); e != api.OK || b.m.Busy() != busy {
			b.t.Fatalf("Fail(%d): %v", phase, e)
		}
	}
}

// slice does a slice that is a phase, and wants that report of it; as long as it is of version 1 nothing changes.
func (b *box) slice(want Report) {
	b.t.Helper()
	st, was, bytes, old := b.m.System().State(), pictureOf(b.p.Kernel), memory(b.m.System()), b.m.System()
	if e, r := b.m.Slice(1); e != (sys.Event{}) || r != want {
		b.t.Fatalf("Slice: %v, %v, not %v", e, r, want)
	}
	now := b.m.System()
	if want.Version == 1 && (now != old || !identical(now.State(), st)) {
		b.t.Fatalf("behind %v: %v, not %v", want, now.State(), st)
	}
	if want.Version == 2 {
		was.versions[1] = 2
	}
	if now.State().Version != want.Version || memory(now) != bytes || pictureOf(b.p.Kernel) != was {
		b.t.Fatalf("behind %v: %v, not %v", want, pictureOf(b.p.Kernel), was)
	}
}

// attempt does the phases of an attempt, of which the last one, if it tells an error, fails.
func (b *box) attempt(attempt, last int, want api.Errno) {
	b.t.Helper()
	for phase := Snapshot; phase <= last; phase++ {
		if !b.m.Busy() {
			b.t.Fatalf("phase %d of attempt %d: not busy", phase, attempt)
		}
		r := Report{Phase: phase, Attempt: attempt, Version: 1}
		if phase == last {
			r.Err = want
		}
		if phase == Commit && want == api.OK {
			r.Version = 2
		}
		b.slice(r)
	}
}

// changes wants that the change that was asked for is done by this attempt: the system is Right then, with the same frames and blocks.
func (b *box) changes(attempt int) {
	b.t.Helper()
	old := b.m.System()
	b.attempt(attempt, Commit, api.OK)
	now := b.m.System()
	if b.m.Busy() || now == old || !rest.Right(old, now) {
		b.t.Fatalf("%v is not right: %v", now.State(), old.State())
	}
	b.just()
}

// idle wants that no change is under way, of a system of version 1.
func (b *box) idle() {
	b.t.Helper()
	if b.m.Busy() || b.m.System().State().Version != 1 {
		b.t.Fatalf("Busy: %v, of version %d", b.m.Busy(), b.m.System().State().Version)
	}
}

// just wants that the environment has just the frames and blocks of its system's tables.
func (b *box) just() {
	b.t.Helper()
	st := b.m.System().State()
	var frames, blocks []int
	for _, e := range st.Pages {
		frames = append(frames, e.Frame)
	}
	for _, i := range st.Files {
		blocks = append(blocks, i.Blocks...)
	}
	slices.Sort(frames)
	slices.Sort(blocks)
	if f, l := b.p.Kernel.List(1, api.Frame), b.p.Kernel.List(1, api.Block); !slices.Equal(f, slices.Compact(frames)) || !slices.Equal(l, blocks) {
		b.t.Fatalf("frames %v, blocks %v of %v", f, l, st)
	}
}

// dice throws what tests are made of; the same at each run.
type dice struct{ *rand.Rand }

func throw(seed uint64) dice { return dice{rand.New(rand.NewPCG(seed, 33))} }

// args are arguments of a call that are mostly such as may be right.
func (d dice) args(n int) []int {
	slot, addr := d.IntN(7), d.IntN(72)
	switch n {
	case 4:
		return []int{d.IntN(9) / 2}
	case 5:
		return []int{d.IntN(5), d.IntN(7) / 4}
	case 11:
		return []int{slot, d.IntN(34)}
	case 12:
		return []int{d.IntN(d.IntN(9)+1) + 1}
	case 13, 17:
		return []int{d.IntN(6) * api.FrameSize, 1 + 2*d.IntN(2)}
	case 15:
		return []int{slot, d.IntN(7)}
	case 16:
		return []int{slot, d.IntN(40) - 20}
	}
	return []int{slot, addr, d.IntN(18)}
}

// program is one that does calls, and reads and writes memory between them, round and round.
func (d dice) program(t *testing.T) string {
	t.Helper()
	calls := []int{1, 2, 2, 2, 2, 3, 4, 5, 5, 5, 6, 7, 7, 8, 8, 8, 9, 9, 10, 10, 11, 11, 12, 12, 12, 13, 14, 15, 16, 17, 18}
	all := ""
	for len(all) < 230 {
		words, last := []int{d.IntN(64), d.IntN(64)}, code.Inst{Op: []int{code.Store, code.StoreW, code.Load, code.LoadW, code.Mul, code.Sub}[d.IntN(6)], A: 1, B: 2}
		if d.IntN(4) > 0 {
			n := calls[d.IntN(len(calls))]
			words, last = d.args(n), code.Inst{Op: code.Call, N: n}
		}
		var l []code.Inst
		for i, n := range words {
			l = append(l, code.Inst{Op: code.Set, A: i + 1, N: n & math.MaxUint16})
		}
		s, e := code.Join(append(l, last))
		if e != api.OK {
			t.Fatal(e)
		}
		all += s
	}
	back, _ := code.Bytes(code.Inst{Op: code.Jump, N: 1<<16 - len(all) - 3})
	return all + back
}

// programs are four of these.
func (d dice) programs(t *testing.T) []string {
	t.Helper()
	var l []string
	for range 4 {
		l = append(l, d.program(t))
	}
	return l
}
