package world

import (
	"math"
	"math/rand/v2"
	"reflect"
	"slices"
	"strings"
	"testing"

	"imago/api"
	"imago/asm"
	"imago/caps"
	"imago/code"
	"imago/kern"
	"imago/snap"
	"imago/sys"
	"imago/upgrade"
)

// far are numbers that are none of anything.
var far = []int{math.MinInt, -1 << 32, -1, 64, 255, 256, 1 << 32, 1<<32 + 1, math.MaxInt}

// loop is a program that asks for its number, again and again, and counts in its memory.
const loop = "loop:, call 14, add r5 r0, store r4 r5, jump loop"

// text is a program that is written in lines, with commas between them.
func text(t *testing.T, lines string) string {
	t.Helper()
	s, bad := asm.Read(strings.ReplaceAll(lines, ", ", "\n"))
	if bad != 0 {
		t.Fatalf("Read(%q): %d", lines, bad)
	}
	return s
}

// resource is what a kernel tells of one.
type resource struct {
	owner int
	root  caps.Handle
	bytes string
}

// picture is all that a kernel tells, but for its queues.
type picture struct {
	versions [4]int // 0: it is not open
	bound    [4][64]resource
	spare    [3]int
	turns    [70]int
}

// pictureOf is a kernel's picture.
func pictureOf(k *kern.Kernel) picture {
	p := picture{spare: k.Spare()}
	for env := 1; env <= api.MaxEnvs; env++ {
		p.versions[env], _ = k.Version(env)
		for kind := api.Frame; kind <= api.Slice; kind++ {
			for _, n := range k.List(env, kind) {
				x := resource{owner: env, root: k.Root(kind, n)}
				switch kind {
				case api.Frame:
					x.bytes = k.Do(env, kern.Call{What: kern.Page, H: x.root}).S
				case api.Block:
					x.bytes = k.Do(env, kern.Call{What: kern.Read, H: x.root}).S
				}
				p.bound[kind][n] = x
			}
		}
	}
	for i := range p.turns {
		p.turns[i] = k.Turn(i)
	}
	return p
}

// identical tells whether two states are the same; a list without an element may be nil or empty.
func identical(a, b sys.State) bool {
	for _, s := range []*sys.State{&a, &b} {
		s.Files = slices.Clone(s.Files)
		for i := range s.Files {
			s.Files[i].Blocks = slices.Concat(s.Files[i].Blocks)
		}
		v := reflect.ValueOf(s).Elem()
		for i := range v.NumField() {
			if f := v.Field(i); f.Kind() == reflect.Slice && f.Len() == 0 {
				f.SetZero()
			}
		}
	}
	return reflect.DeepEqual(a, b)
}

// box is a world.
type box struct {
	t      *testing.T
	w      *World
	totals [3]int
}

// start is a box of a new world.
func start(t *testing.T, frames, blocks, slices int) *box {
	t.Helper()
	w, e := New(frames, blocks, slices)
	if w == nil || e != api.OK {
		t.Fatalf("New: %v, %v", w, e)
	}
	return &box{t, w, [3]int{frames, blocks, slices}}
}

// does does an operation, and wants that reply.
func (b *box) does(o Op, want Reply) {
	b.t.Helper()
	if r := b.w.Do(o); r != want {
		b.t.Fatalf("%v: %v, not %v", o, r, want)
	}
}

// refuses does an operation that tells an error, and nothing else; nothing changes.
func (b *box) refuses(o Op, want api.Errno) {
	b.t.Helper()
	was := pictureOf(b.w.Kernel())
	var systems [5]*sys.System
	var busy [5]bool
	for env := range systems {
		systems[env], busy[env] = b.w.System(env), b.w.Busy(env)
	}
	b.does(o, Reply{Err: want})
	if now := pictureOf(b.w.Kernel()); now != was {
		b.t.Fatalf("%v: %v, not %v", o, now, was)
	}
	for env := range systems {
		if b.w.System(env) != systems[env] || b.w.Busy(env) != busy[env] {
			b.t.Fatalf("%v: environment %d is another one", o, env)
		}
	}
}

// begins begins an environment.
func (b *box) begins(env, version int, quota [3]int, programs ...string) {
	b.t.Helper()
	b.does(Op{What: Begin, Env: env, Version: version, Quota: quota, Programs: programs}, Reply{})
}

// raw does a kernel's call, and wants that it is answered so.
func (b *box) raw(env int, c kern.Call, want kern.Reply) {
	b.t.Helper()
	b.does(Op{What: Raw, Env: env, Call: c}, Reply{Err: want.Err, Reply: want})
}

// step has the turn N, which is a step of an environment's process.
func (b *box) step(n, env, pid int, e sys.Event, version int) {
	b.t.Helper()
	b.does(Op{What: Turn, N: n, PID: pid}, Reply{Env: env, Event: e, Report: upgrade.Report{Version: version}})
}

// wish is one that comes true.
func wish() upgrade.Wish {
	return upgrade.Wish{Script: snap.Script, Tries: 1, Space: 2 * api.MaxBytes}
}

// sound wants what is always so: an environment with a manager has just the frames and blocks of its system's tables, and is open, in its version; all that nobody has is spare.
func (b *box) sound() {
	b.t.Helper()
	k := b.w.Kernel()
	bound := [3]int{}
	for env := 1; env <= api.MaxEnvs; env++ {
		for kind := api.Frame; kind <= api.Slice; kind++ {
			bound[kind-1] += len(k.List(env, kind))
		}
		s := b.w.System(env)
		if s == nil {
			continue
		}
		st := s.State()
		var frames, blocks []int
		for _, e := range st.Pages {
			frames = append(frames, e.Frame)
		}
		for _, i := range st.Files {
			blocks = append(blocks, i.Blocks...)
		}
		slices.Sort(frames)
		slices.Sort(blocks)
		if f, l := k.List(env, api.Frame), k.List(env, api.Block); !slices.Equal(f, slices.Compact(frames)) || !slices.Equal(l, blocks) {
			b.t.Fatalf("environment %d: frames %v, blocks %v of %v", env, f, l, st)
		}
		if v, e := k.Version(env); v != st.Version || e != api.OK {
			b.t.Fatalf("environment %d: version %d, %v, not %d", env, v, e, st.Version)
		}
	}
	for i, n := range k.Spare() {
		if n+bound[i] != b.totals[i] {
			b.t.Fatalf("spare: %v of %v", k.Spare(), b.totals)
		}
	}
}

// dice throws what tests are made of; the same at each run.
type dice struct{ *rand.Rand }

func throw(seed uint64) dice { return dice{rand.New(rand.NewPCG(seed, 34))} }

// args are arguments of a call that are mostly such as may be right.
func (d dice) args(n int) []int {
	slot, addr := d.IntN(7), d.IntN(72)
	switch n {
	case 4:
		return []int{d.IntN(9) / 2}
	case 5:
		return []int{d.IntN(5), d.IntN(7) / 4}
	case 11:
		return []int{slot, d.IntN(34)}
	case 12:
		return []int{d.IntN(d.IntN(9)+1) + 1}
	case 13, 17:
		return []int{d.IntN(6) * api.FrameSize, 1 + 2*d.IntN(2)}
	case 15:
		return []int{slot, d.IntN(7)}
	case 16:
		return []int{slot, d.IntN(40) - 20}
	}
	return []int{slot, addr, d.IntN(18)}
}

// program is one that does calls, and reads and writes memory between them, round and round.
func (d dice) program(t *testing.T) string {
	t.Helper()
	calls := []int{1, 2, 2, 2, 2, 3, 4, 5, 5, 5, 6, 7, 7, 8, 8, 8, 9, 9, 10, 10, 11, 11, 12, 12, 12, 13, 14, 15, 16, 17, 18}
	all := ""
	for len(all) < 230 {
		words, last := []int{d.IntN(64), d.IntN(64)}, code.Inst{Op: []int{code.Store, code.StoreW, code.Load, code.LoadW, code.Mul, code.Sub}[d.IntN(6)], A: 1, B: 2}
		if d.IntN(4) > 0 {
			n := calls[d.IntN(len(calls))]
			words, last = d.args(n), code.Inst{Op: code.Call, N: n}
		}
		var l []code.Inst
		for i, n := range words {
			l = append(l, code.Inst{Op: code.Set, A: i + 1, N: n & math.MaxUint16})
		}
		s, e := code.Join(append(l, last))
		if e != api.OK {
			t.Fatal(e)
		}
		all += s
	}
	back, _ := code.Bytes(code.Inst{Op: code.Jump, N: 1<<16 - len(all) - 3})
	return all + back
}

// programs are four of these.
func (d dice) programs(t *testing.T) []string {
	t.Helper()
	var l []string
	for range 4 {
		l = append(l, d.program(t))
	}
	return l
}
