package rest

import (
	"math"
	"math/rand/v2"
	"reflect"
	"slices"
	"testing"

	"imago/api"
	"imago/code"
	"imago/kern"
	"imago/snap"
	"imago/sys"
	"imago/types"
	"imago/wire"
)

// far are numbers that are none of anything.
var far = []int{math.MinInt, -1 << 32, -1, 10001, 1 << 16, 1 << 32, 1<<32 + 1, math.MaxInt}

// dice throws what tests are made of; the same at each run.
type dice struct{ *rand.Rand }

func throw(seed uint64) dice { return dice{rand.New(rand.NewPCG(seed, 31))} }

// args are arguments of a call that are mostly such as may be right; programs that a process may go on with are four from first on.
func (d dice) args(n, first int) []int {
	slot, addr := d.IntN(7), d.IntN(72)
	switch n {
	case 4:
		return []int{[]int{first + d.IntN(4), 8}[d.IntN(8)/7]}
	case 5:
		return []int{d.IntN(5), d.IntN(7) / 4}
	case 11:
		return []int{slot, d.IntN(34)}
	case 12:
		return []int{d.IntN(d.IntN(9)+1) + 1}
	case 13, 17:
		return []int{d.IntN(6) * api.FrameSize, 1 + 2*d.IntN(2)}
	case 15:
		return []int{slot, d.IntN(7)}
	case 16:
		return []int{slot, d.IntN(40) - 20}
	}
	return []int{slot, addr, d.IntN(18)}
}

// sets are instructions that give registers from 1 on these words.
func sets(words ...int) []code.Inst {
	var l []code.Inst
	for i, n := range words {
		l = append(l, code.Inst{Op: code.Set, A: i + 1, N: n & math.MaxUint16})
	}
	return l
}

// program is one that does some of these calls, and reads and writes memory between them, round and round.
func (d dice) program(t *testing.T, calls []int, first int) string {
	t.Helper()
	all := ""
	for len(all) < 230 {
		var l []code.Inst
		switch d.IntN(4) {
		case 0:
			op := []int{code.Store, code.StoreW, code.Load, code.LoadW, code.Mul, code.Sub}[d.IntN(6)]
			l = append(sets(d.IntN(64), d.IntN(64)), code.Inst{Op: op, A: 1, B: 2})
		default:
			n := calls[d.IntN(len(calls))]
			l = append(sets(d.args(n, first)...), code.Inst{Op: code.Call, N: n})
		}
		s, e := code.Join(l)
		if e != api.OK {
			t.Fatal(e)
		}
		all += s
	}
	back, _ := code.Bytes(code.Inst{Op: code.Jump, N: 1<<16 - len(all) - 3})
	return all + back
}

// all are all calls, some of them more often; tame are those that both versions answer alike, as long as nobody does others.
var (
	all  = []int{1, 2, 2, 2, 2, 3, 4, 5, 5, 5, 6, 7, 7, 8, 8, 8, 9, 9, 10, 10, 11, 11, 12, 12, 12, 13, 14, 18}
	tame = []int{3, 4, 5, 5, 6, 7, 7, 8, 8, 8, 9, 11, 11, 12, 12, 13, 14, 18, 200, 1}
)

// programs are four with all calls, and four with tame ones.
func (d dice) programs(t *testing.T) []string {
	t.Helper()
	var l []string
	for range 4 {
		l = append(l, d.program(t, all, 0))
	}
	for range 4 {
		l = append(l, d.program(t, tame, 4))
	}
	return l
}

// machine is a kernel in which environment 1 may have so many frames; it may have as many blocks as files need. Environment 2 has some of both.
func machine(t *testing.T, frames int) *kern.Kernel {
	t.Helper()
	k, e := kern.New(64, 64, 4)
	if e != api.OK || k.Open(1, 1, [3]int{frames, 16, 1}) != api.OK || k.Open(2, 1, [3]int{3, 3, 1}) != api.OK {
		t.Fatal("no machine")
	}
	for _, kind := range []int{api.Frame, api.Block} {
		k.Do(2, kern.Call{What: kern.Bind, A: kind})
	}
	return k
}

// box is a system of version 1 in its place.
type box struct {
	t *testing.T
	p Place
	s *sys.System
}

// start is a box of a new system.
func start(t *testing.T, frames int, programs ...string) *box {
	t.Helper()
	p := Place{Kernel: machine(t, frames), Env: 1, Programs: programs}
	s, e := sys.New(p.Kernel, 1, 1, programs)
	if e != api.OK {
		t.Fatal(e)
	}
	return &box{t, p, s}
}

// turns is a box of a new system behind so many steps of whichever process.
func (d dice) turns(t *testing.T, programs []string, steps int) *box {
	t.Helper()
	b := start(t, 25, programs...)
	for range steps {
		b.s.Step(1 + d.IntN(6))
	}
	return b
}

// loaded is a system of tables.
func (b *box) loaded(st sys.State) *sys.System {
	b.t.Helper()
	s, e := sys.Load(b.p.Kernel, b.p.Env, b.p.Programs, st)
	if e != api.OK {
		b.t.Fatalf("Load: %v: %v", e, st)
	}
	return s
}

// bytes are the bytes of the system's state.
func (b *box) bytes() string {
	b.t.Helper()
	s, e := snap.Bytes(b.s.State())
	if e != api.OK {
		b.t.Fatal(e)
	}
	return s
}

// bound is all that the kernel tells of what environments have.
type bound struct {
	versions [4]int
	lists    [4][4][]int
	pages    [64]string
	spare    [3]int
}

// boundOf is what is bound in a kernel.
func boundOf(k *kern.Kernel) bound {
	b := bound{spare: k.Spare()}
	for env := 1; env <= api.MaxEnvs; env++ {
		b.versions[env], _ = k.Version(env)
		for kind := api.Frame; kind <= api.Slice; kind++ {
			b.lists[env][kind] = k.List(env, kind)
		}
		for _, n := range b.lists[env][api.Frame] {
			b.pages[n] += k.Do(env, kern.Call{What: kern.Page, H: k.Root(api.Frame, n)}).S
		}
		for _, n := range b.lists[env][api.Block] {
			b.pages[n] += k.Do(env, kern.Call{What: kern.Read, H: k.Root(api.Block, n)}).S
		}
	}
	return b
}

// identical tells whether two things are the same; a list without an element may be nil or empty.
func identical(a, b sys.State) bool {
	for _, s := range []*sys.State{&a, &b} {
		s.Files = slices.Clone(s.Files)
		for i := range s.Files {
			s.Files[i].Blocks = slices.Concat(s.Files[i].Blocks)
		}
		v := reflect.ValueOf(s).Elem()
		for i := range v.NumField() {
			if f := v.Field(i); f.Kind() == reflect.Slice && f.Len() == 0 {
				f.SetZero()
			}
		}
	}
	return reflect.DeepEqual(a, b)
}

// schema is a version's schema.
func schema(t *testing.T, version int) types.Type {
	t.Helper()
	x, e := snap.Schema(version)
	if e != api.OK {
		t.Fatal(e)
	}
	return x
}

// written are a state's bytes.
func written(t *testing.T, w wire.State) string {
	t.Helper()
	b, e := wire.Bytes(w)
	if e != api.OK {
		t.Fatal(e)
	}
	return b
}

// moves wants that bytes are moved by a script to others, in so many steps.
func moves(t *testing.T, b, script, want string, steps int) {
	t.Helper()
	for _, fuel := range []int{steps, steps + 1, 10000} {
		if got, e := Move(b, script, fuel); got != want || e != api.OK {
			t.Fatalf("Move with %d: %q, %v, not %q", fuel, got, e, want)
		}
	}
	if n, e := Cost(b, script); n != steps || e != api.OK {
		t.Fatalf("Cost: %d, %v, not %d", n, e, steps)
	}
	for _, fuel := range []int{steps - 1, steps / 2, 0} {
		if got, e := Move(b, script, fuel); got != "" || e != api.ErrFuel {
			t.Fatalf("Move with %d: %q, %v", fuel, got, e)
		}
	}
	for _, fuel := range far {
		if got, e := Move(b, script, fuel); got != "" || e != api.ErrArg {
			t.Fatalf("Move with %d: %q, %v", fuel, got, e)
		}
	}
}

// stays wants that bytes are not moved by a script, whatever the fuel.
func stays(t *testing.T, b, script string, want api.Errno) {
	t.Helper()
	for _, fuel := range append([]int{0, 1, 20, 10000}, far...) {
		if got, e := Move(b, script, fuel); got != "" || e != want {
			t.Fatalf("Move(%.80q, %.200q, %d): %q, %v, not %v", b, script, fuel, got, e, want)
		}
	}
	if n, e := Cost(b, script); n != 0 || e != want {
		t.Fatalf("Cost(%.80q, %.200q): %d, %v, not %v", b, script, n, e, want)
	}
}

// identicalBound tells whether the same things are bound.
func identicalBound(a, b bound) bool { return reflect.DeepEqual(a, b) }
