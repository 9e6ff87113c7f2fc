package caps

import (
	"math"
	"slices"
	"testing"

	"imago/api"
)

// root is a capability with both rights.
func root(env, number int) Cap {
	return Cap{Env: env, Kind: api.Frame, Number: number, Rights: Use | Grant}
}

func mint(t *testing.T, x *Table, c Cap) Handle {
	t.Helper()
	h, e := x.Mint(c)
	if e != api.OK {
		t.Fatalf("Mint(%v): %v", c, e)
	}
	return h
}

func derive(t *testing.T, x *Table, env int, h Handle, to, rights int) Handle {
	t.Helper()
	d, e := x.Derive(env, h, to, rights)
	if e != api.OK {
		t.Fatalf("Derive(%d, %v, %d, %d): %v", env, h, to, rights, e)
	}
	return d
}

// full is a table of Most capabilities of environment 1, with both rights.
func full(t *testing.T) (*Table, []Handle) {
	t.Helper()
	x := New()
	var l []Handle
	for i := range Most {
		l = append(l, mint(t, x, root(1, i%64)))
	}
	return x, l
}

// told is all that a table tells of what is there.
func told(x *Table) []any {
	all := []any{x.Live()}
	for env := -1; env <= api.MaxEnvs+1; env++ {
		for _, h := range x.Handles(env) {
			c, e := x.Look(env, h)
			all = append(all, env, h, c, e)
		}
	}
	return all
}

// keeps wants that a table tells the same behind do.
func keeps(t *testing.T, x *Table, do func()) {
	t.Helper()
	before := told(x)
	do()
	if after := told(x); !slices.Equal(before, after) {
		t.Errorf("changed: %v, not %v", after, before)
	}
}

// refused wants this error beside a zero handle.
func refused(t *testing.T, want api.Errno, h Handle, e api.Errno) {
	t.Helper()
	if e != want || h != (Handle{}) {
		t.Errorf("%v, %v, not %v", h, e, want)
	}
}

// is wants a handle that is an environment's, of this capability, and stale for all others.
func is(t *testing.T, x *Table, h Handle, want Cap) {
	t.Helper()
	for env := -1; env <= api.MaxEnvs+1; env++ {
		c, e := x.Look(env, h)
		if env == want.Env && (c != want || e != api.OK) {
			t.Errorf("Look(%d, %v): %v, %v, not %v", env, h, c, e, want)
		}
		if env != want.Env && (c != Cap{} || e != api.ErrStale) {
			t.Errorf("Look(%d, %v): %v, %v", env, h, c, e)
		}
		if slices.Contains(x.Handles(env), h) != (env == want.Env) {
			t.Errorf("Handles(%d): %v, and %v is %d's", env, x.Handles(env), h, want.Env)
		}
	}
}

// stale wants that every call tells that this handle is stale for this environment, and that nothing changes.
func stale(t *testing.T, x *Table, env int, h Handle) {
	t.Helper()
	keeps(t, x, func() {
		if c, e := x.Look(env, h); c != (Cap{}) || e != api.ErrStale {
			t.Errorf("Look(%d, %v): %v, %v", env, h, c, e)
		}
		if n, e := x.Drop(env, h); n != 0 || e != api.ErrStale {
			t.Errorf("Drop(%d, %v): %d, %v", env, h, n, e)
		}
		if n, e := x.Revoke(env, h); n != 0 || e != api.ErrStale {
			t.Errorf("Revoke(%d, %v): %d, %v", env, h, n, e)
		}
		for _, right := range []int{Use, Grant, 0, 3, -1} {
			if e := x.Check(env, h, right); e != api.ErrStale {
				t.Errorf("Check(%d, %v, %d): %v", env, h, right, e)
			}
		}
		for _, to := range []int{1, 0, 4} {
			for _, rights := range []int{Use, 0, 4} {
				if d, e := x.Derive(env, h, to, rights); d != (Handle{}) || e != api.ErrStale {
					t.Errorf("Derive(%d, %v, %d, %d): %v, %v", env, h, to, rights, d, e)
				}
			}
		}
	})
}

// staleForAll wants that a handle is nobody's.
func staleForAll(t *testing.T, x *Table, handles ...Handle) {
	t.Helper()
	for _, h := range handles {
		for env := range api.MaxEnvs + 2 {
			stale(t, x, env, h)
		}
	}
}

func TestNew(t *testing.T) { // 9.1, and the constants
	if Most != 128 || Use != 1 || Grant != 2 {
		t.Error("constants")
	}
	x := New()
	if x == nil || x.Live() != 0 {
		t.Fatalf("New: %v", x)
	}
	for env := range api.MaxEnvs + 2 {
		if len(x.Handles(env)) != 0 || x.DropEnv(env) != 0 {
			t.Errorf("%d has something", env)
		}
	}
	staleForAll(t, x, Handle{}, Handle{0, 1}, Handle{1, 1}, Handle{Most, 1})
	if y := New(); mint(t, x, root(1, 0)) != (Handle{0, 1}) || y.Live() != 0 || New().Live() != 0 {
		t.Error("two tables have something together")
	}
}

func TestMint(t *testing.T) { // 9.1: every capability that there may be, at the edges
	for env := 1; env <= api.MaxEnvs; env++ {
		for kind := api.Frame; kind <= api.Slice; kind++ {
			for _, number := range []int{0, 1, 31, 62, 63} {
				for rights := 1; rights <= 3; rights++ {
					x := New()
					c := Cap{Env: env, Kind: kind, Number: number, Rights: rights}
					h := mint(t, x, c)
					if h != (Handle{0, 1}) || x.Live() != 1 {
						t.Errorf("Mint(%v): %v, and %d are there", c, h, x.Live())
					}
					is(t, x, h, c)
				}
			}
		}
	}
}

func TestMintTheSameTwice(t *testing.T) { // 9.1: nothing asks for one capability of a resource alone
	x := New()
	a, b := mint(t, x, root(1, 7)), mint(t, x, root(1, 7))
	if a != (Handle{0, 1}) || b != (Handle{1, 1}) || x.Live() != 2 {
		t.Errorf("Mint: %v, %v", a, b)
	}
	if n, e := x.Drop(1, a); n != 1 || e != api.OK {
		t.Errorf("Drop: %d, %v", n, e)
	}
	is(t, x, b, root(1, 7))
}

// wrongCaps are capabilities that there may not be, each wrong in one field.
func wrongCaps() []Cap {
	var l []Cap
	for _, n := range []int{math.MinInt, -1, 0, 4, math.MaxInt} {
		l = append(l, Cap{n, 1, 1, 1}, Cap{1, n, 1, 1}, Cap{1, 1, 1, n})
	}
	for _, n := range []int{math.MinInt, -1, 64, math.MaxInt} {
		l = append(l, Cap{1, 1, n, 1})
	}
	return append(l, Cap{})
}

func TestMintWrong(t *testing.T) { // 9.1, R4
	x := New()
	mint(t, x, root(2, 3))
	for _, c := range wrongCaps() {
		keeps(t, x, func() {
			h, e := x.Mint(c)
			refused(t, api.ErrArg, h, e)
		})
	}
	if h := mint(t, x, root(2, 3)); h != (Handle{1, 1}) {
		t.Errorf("Mint behind wrong ones: %v", h)
	}
}

func TestFull(t *testing.T) { // 9.1: Most are there; what is wrong is told first, and no generation changes
	x, l := full(t)
	for i, h := range l {
		if h != (Handle{i, 1}) {
			t.Errorf("Mint %d: %v", i, h)
		}
	}
	weak := New()
	for range Most {
		mint(t, weak, Cap{Env: 1, Kind: api.Block, Rights: Use})
	}
	keeps(t, x, func() {
		h, e := x.Mint(root(2, 1))
		refused(t, api.ErrFull, h, e)
		h, e = x.Derive(1, l[5], 2, Use)
		refused(t, api.ErrFull, h, e)
		h, e = x.Derive(1, l[5], 4, Use)
		refused(t, api.ErrArg, h, e)
		h, e = x.Derive(2, l[5], 2, Use)
		refused(t, api.ErrStale, h, e)
		for _, c := range wrongCaps() {
			h, e = x.Mint(c)
			refused(t, api.ErrArg, h, e)
		}
	})
	keeps(t, weak, func() {
		h, e := weak.Derive(1, Handle{3, 1}, 2, Use)
		refused(t, api.ErrRight, h, e)
	})
	if n, e := x.Drop(1, l[Most-1]); n != 1 || e != api.OK || x.Live() != Most-1 {
		t.Errorf("Drop: %d, %v", n, e)
	}
	if h := derive(t, x, 1, l[0], 2, Use); h != (Handle{Most - 1, 2}) {
		t.Errorf("Derive: %v", h)
	}
	h, e := x.Mint(root(1, 1))
	refused(t, api.ErrFull, h, e)
}

func TestLowestFreeSlot(t *testing.T) { // 9.1, words: the lowest slot; its generation is how often one was put into it
	x, l := full(t)
	for _, slot := range []int{100, 3, 127, 40, 0} {
		if n, e := x.Drop(1, l[slot]); n != 1 || e != api.OK {
			t.Fatalf("Drop: %d, %v", n, e)
		}
	}
	if h := mint(t, x, root(2, 1)); h != (Handle{0, 2}) {
		t.Errorf("Mint: %v", h)
	}
	if h := derive(t, x, 1, l[1], 2, Use); h != (Handle{3, 2}) {
		t.Errorf("Derive: %v", h)
	}
	for gen := 3; gen < 300; gen++ { // one slot again and again
		if n, e := x.Drop(2, Handle{3, gen - 1}); n != 1 || e != api.OK {
			t.Fatalf("Drop of generation %d: %d, %v", gen-1, n, e)
		}
		if h := mint(t, x, root(2, 1)); h != (Handle{3, gen}) {
			t.Fatalf("Mint: %v, not generation %d", h, gen)
		}
	}
	for _, want := range []Handle{{40, 2}, {100, 2}, {127, 2}} {
		if h := mint(t, x, root(3, 1)); h != want {
			t.Errorf("Mint: %v, not %v", h, want)
		}
	}
}

func TestDerive(t *testing.T) { // 9.1, 9.4: all rights of all rights, from each to each
	for has := 1; has <= 3; has++ {
		for env := 1; env <= api.MaxEnvs; env++ {
			for to := 1; to <= api.MaxEnvs; to++ {
				for rights := 1; rights <= 3; rights++ {
					deriveOnce(t, Cap{Env: env, Kind: to, Number: 60 + has, Rights: has}, to, rights)
				}
			}
		}
	}
}

func deriveOnce(t *testing.T, c Cap, to, rights int) {
	t.Helper()
	x := New()
	mint(t, x, root(3, 0))
	h := mint(t, x, c)
	if c.Rights == Use || c.Rights == Grant && rights != Grant {
		keeps(t, x, func() {
			d, e := x.Derive(c.Env, h, to, rights)
			refused(t, api.ErrRight, d, e)
		})
		return
	}
	d := derive(t, x, c.Env, h, to, rights)
	if d != (Handle{2, 1}) || x.Live() != 3 {
		t.Errorf("Derive: %v, and %d are there", d, x.Live())
	}
	is(t, x, h, c)
	is(t, x, d, Cap{Env: to, Kind: c.Kind, Number: c.Number, Rights: rights})
}

func TestDeriveWrong(t *testing.T) { // 9.1, R1: ErrStale, then ErrArg, then ErrRight
	x := New()
	a := mint(t, x, root(1, 7))
	weak := mint(t, x, Cap{Env: 1, Kind: api.Slice, Rights: Use})
	granted := mint(t, x, Cap{Env: 1, Kind: api.Slice, Rights: Grant})
	for _, h := range []Handle{a, weak, granted} {
		keeps(t, x, func() {
			for _, to := range []int{math.MinInt, -1, 0, 4, math.MaxInt} {
				d, e := x.Derive(1, h, to, Use)
				refused(t, api.ErrArg, d, e)
			}
			for _, rights := range []int{math.MinInt, -1, 0, 4, 5, 7, math.MaxInt} {
				d, e := x.Derive(1, h, 1, rights)
				refused(t, api.ErrArg, d, e)
			}
		})
		stale(t, x, 2, h)
	}
}

func TestStaleHandles(t *testing.T) { // words, 9.2: another slot, another generation, another owner
	x := New()
	mint(t, x, root(1, 0))
	a := mint(t, x, root(2, 5))
	if _, e := x.Drop(2, a); e != api.OK {
		t.Fatal(e)
	}
	a = mint(t, x, root(2, 6))
	if a != (Handle{1, 2}) {
		t.Fatalf("Mint: %v", a)
	}
	for _, env := range []int{math.MinInt, -2, -1, 0, 1, 3, 4, math.MaxInt} {
		stale(t, x, env, a)
	}
	for _, slot := range []int{math.MinInt, -1, 0, 2, Most - 1, Most, Most + 1, math.MaxInt} {
		stale(t, x, 2, Handle{slot, 2})
	}
	for _, gen := range []int{math.MinInt, -2, -1, 0, 1, 3, math.MaxInt} {
		stale(t, x, 2, Handle{1, gen})
	}
	staleForAll(t, x, Handle{}, Handle{2, 0}, Handle{2, 1})
	is(t, x, a, root(2, 6))
}

func TestCheck(t *testing.T) { // 9.2
	for has := 1; has <= 3; has++ {
		x := New()
		h := mint(t, x, Cap{Env: 2, Kind: api.Block, Number: 63, Rights: has})
		keeps(t, x, func() {
			for _, right := range []int{Use, Grant} {
				want := api.ErrRight
				if has == right || has == 3 {
					want = api.OK
				}
				if e := x.Check(2, h, right); e != want {
					t.Errorf("Check of %d, %d: %v", has, right, e)
				}
			}
			for _, right := range []int{math.MinInt, -1, 0, 3, 4, 5, 6, 7, math.MaxInt} {
				if e := x.Check(2, h, right); e != api.ErrRight {
					t.Errorf("Check of %d, %d: %v", has, right, e)
				}
			}
		})
	}
}

func TestExample(t *testing.T) { // the chapter's example
	x := New()
	a := mint(t, x, root(1, 0))
	b := derive(t, x, 1, a, 2, Use)
	if n, e := x.Drop(1, a); n != 2 || e != api.OK {
		t.Errorf("Drop: %d, %v", n, e)
	}
	staleForAll(t, x, a, b)
}

// tree is a table of two trees: a (of 1) above b (of 2) and e (of 1), b above c (of 3) and d (of 1), c above f (of 2); and o (of 2) above p (of 1).
func tree(t *testing.T) (*Table, map[string]Handle) {
	t.Helper()
	x := New()
	a := mint(t, x, root(1, 7))
	o := mint(t, x, root(2, 9))
	b := derive(t, x, 1, a, 2, 3)
	c := derive(t, x, 2, b, 3, 3)
	d := derive(t, x, 2, b, 1, 3)
	e := derive(t, x, 1, a, 1, 3)
	f := derive(t, x, 3, c, 2, 3)
	p := derive(t, x, 2, o, 1, 3)
	return x, map[string]Handle{"a": a, "b": b, "c": c, "d": d, "e": e, "f": f, "o": o, "p": p}
}

// owners are whose those of a tree are.
const owners = "a1b2c3d1e1f2o2p1"

// stay wants that just these of a tree are there, and no other ones.
func stay(t *testing.T, x *Table, l map[string]Handle, names string) {
	t.Helper()
	if x.Live() != len(names) {
		t.Errorf("%d are there, not %s", x.Live(), names)
	}
	for i := 0; i < len(owners); i += 2 {
		name, env, number := owners[i:i+1], int(owners[i+1]-'0'), 7
		if name == "o" || name == "p" {
			number = 9
		}
		if slices.Contains([]byte(names), name[0]) {
			is(t, x, l[name], root(env, number))
		} else {
			staleForAll(t, x, l[name])
		}
	}
}

func TestDrop(t *testing.T) { // 9.2, 9.5
	for _, c := range []struct {
		name string
		env  int
		stay string
	}{
		{"a", 1, "op"}, {"b", 2, "aeop"}, {"c", 3, "abdeop"}, {"d", 1, "abcefop"}, {"e", 1, "abcdfop"}, {"f", 2, "abcdeop"}, {"o", 2, "abcdef"}, {"p", 1, "abcdefo"},
	} {
		x, l := tree(t)
		stay(t, x, l, "abcdefop")
		if n, e := x.Drop(c.env, l[c.name]); n != 8-len(c.stay) || e != api.OK {
			t.Errorf("Drop of %s: %d, %v", c.name, n, e)
		}
		stay(t, x, l, c.stay)
	}
}

func TestRevoke(t *testing.T) { // 9.2: all below it, it itself stays
	for _, c := range []struct {
		name string
		env  int
		stay string
	}{
		{"a", 1, "aop"}, {"b", 2, "abeop"}, {"c", 3, "abcdeop"}, {"d", 1, "abcdefop"}, {"e", 1, "abcdefop"}, {"f", 2, "abcdefop"}, {"o", 2, "abcdefo"}, {"p", 1, "abcdefop"},
	} {
		x, l := tree(t)
		if n, e := x.Revoke(c.env, l[c.name]); n != 8-len(c.stay) || e != api.OK {
			t.Errorf("Revoke of %s: %d, %v", c.name, n, e)
		}
		stay(t, x, l, c.stay)
		if n, e := x.Revoke(c.env, l[c.name]); n != 0 || e != api.OK {
			t.Errorf("Revoke of %s again: %d, %v", c.name, n, e)
		}
		if d := derive(t, x, c.env, l[c.name], 3, Use); x.Check(3, d, Use) != api.OK {
			t.Errorf("Derive of %s", c.name)
		}
	}
}

func TestDropEnv(t *testing.T) { // 9.2: each one that is gone is counted once, whosever it is
	for _, c := range []struct {
		env  int
		stay string
	}{
		{1, "o"}, {2, "ae"}, {3, "abdeop"}, {0, "abcdefop"}, {-1, "abcdefop"}, {4, "abcdefop"}, {math.MinInt, "abcdefop"}, {math.MaxInt, "abcdefop"},
	} {
		x, l := tree(t)
		if n := x.DropEnv(c.env); n != 8-len(c.stay) {
			t.Errorf("DropEnv(%d): %d", c.env, n)
		}
		stay(t, x, l, c.stay)
		if n := x.DropEnv(c.env); n != 0 || len(x.Handles(c.env)) != 0 {
			t.Errorf("DropEnv(%d) again: %d", c.env, n)
		}
	}
	x, _ := full(t)
	if n := x.DropEnv(2); n != 0 || x.Live() != Most {
		t.Errorf("DropEnv: %d", n)
	}
	if n := x.DropEnv(1); n != Most || x.Live() != 0 {
		t.Errorf("DropEnv: %d", n)
	}
}

func TestDeepest(t *testing.T) { // 9.2, 9.5: each is derived from the one ahead of it
	chain := func() (*Table, []Handle) {
		x := New()
		l := []Handle{mint(t, x, root(1, 7))}
		for i := 1; i < Most; i++ {
			l = append(l, derive(t, x, 1, l[i-1], 1, 3))
		}
		return x, l
	}
	for _, at := range []int{0, 1, 63, Most - 2, Most - 1} {
		x, l := chain()
		if n, e := x.Revoke(1, l[at]); n != Most-1-at || e != api.OK {
			t.Errorf("Revoke at %d: %d, %v", at, n, e)
		}
		if h := x.Handles(1); !slices.Equal(h, l[:at+1]) {
			t.Errorf("Handles: %v", h)
		}
		x, l = chain()
		if n, e := x.Drop(1, l[at]); n != Most-at || e != api.OK {
			t.Errorf("Drop at %d: %d, %v", at, n, e)
		}
		if h := x.Handles(1); !slices.Equal(h, l[:at]) {
			t.Errorf("Handles: %v", h)
		}
	}
}

func TestBelowInLowerSlots(t *testing.T) { // 9.5: what is below may stand in a lower slot than what is above
	x, l := full(t)
	top := l[Most-1]
	for _, h := range l[:Most-1] {
		if _, e := x.Drop(1, h); e != api.OK {
			t.Fatal(e)
		}
	}
	second := derive(t, x, 1, top, 2, 3)
	third := derive(t, x, 2, second, 1, 3)
	if _, e := x.Drop(1, third); e != api.OK {
		t.Fatal(e)
	}
	other := mint(t, x, root(3, 1)) // in the third one's slot, and below nothing
	third = derive(t, x, 2, second, 1, Use)
	if n, e := x.Drop(1, top); n != 3 || e != api.OK {
		t.Errorf("Drop: %d, %v", n, e)
	}
	staleForAll(t, x, top, second, third)
	is(t, x, other, root(3, 1))
	if x.Live() != 1 {
		t.Errorf("%d are there", x.Live())
	}
}

func TestSlotUsedAnew(t *testing.T) { // 9.3, 9.5: who stands in a slot now has nothing to do with who stood there
	x := New()
	a := mint(t, x, root(1, 7))
	b := derive(t, x, 1, a, 1, 3)
	if n, e := x.Drop(1, a); n != 2 || e != api.OK {
		t.Fatalf("Drop: %d, %v", n, e)
	}
	c, d := mint(t, x, root(1, 8)), mint(t, x, root(1, 8))
	if c.Slot != a.Slot || d.Slot != b.Slot {
		t.Fatalf("Mint: %v, %v", c, d)
	}
	staleForAll(t, x, a, b)
	if n, e := x.Revoke(1, c); n != 0 || e != api.OK {
		t.Errorf("Revoke: %d, %v", n, e)
	}
	is(t, x, d, root(1, 8))
	below := derive(t, x, 1, d, 2, Use)
	if n, e := x.Drop(1, c); n != 1 || e != api.OK {
		t.Errorf("Drop: %d, %v", n, e)
	}
	is(t, x, d, root(1, 8))
	is(t, x, below, Cap{Env: 2, Kind: api.Frame, Number: 8, Rights: Use})
}

func TestHandlesAreNew(t *testing.T) { // 9.2, R3: by their slots; spare room too
	x, l := tree(t)
	want := []Handle{l["a"], l["d"], l["e"], l["p"]}
	first, again := x.Handles(1), x.Handles(1)
	if !slices.Equal(first, want) {
		t.Fatalf("Handles: %v", first)
	}
	for i := range first {
		first[i] = Handle{99, 99}
	}
	_ = append(first, Handle{98, 98})
	if !slices.Equal(again, want) || !slices.Equal(x.Handles(1), want) {
		t.Errorf("Handles: %v, %v", again, x.Handles(1))
	}
	x.DropEnv(1)
	if !slices.Equal(again, want) {
		t.Errorf("Handles: %v", again)
	}
}

func TestNilTable(t *testing.T) { // a nil table is empty
	var x *Table
	h, e := x.Mint(root(1, 1))
	refused(t, api.ErrState, h, e)
	for _, c := range wrongCaps() {
		h, e := x.Mint(c)
		refused(t, api.ErrArg, h, e)
	}
	staleForAll(t, x, Handle{}, Handle{0, 1}, Handle{-1, 1}, Handle{Most, 1})
	for env := range api.MaxEnvs + 2 {
		if x.DropEnv(env) != 0 || len(x.Handles(env)) != 0 {
			t.Errorf("%d has something", env)
		}
	}
	if x.Live() != 0 {
		t.Errorf("Live: %d", x.Live())
	}
}

func TestZeroTable(t *testing.T) { // one that New didn't make is an empty one
	var x Table
	staleForAll(t, &x, Handle{}, Handle{0, 1})
	a := mint(t, &x, root(1, 7))
	b := derive(t, &x, 1, a, 2, Use)
	if n, e := x.Drop(1, a); n != 2 || e != api.OK {
		t.Errorf("Drop: %d, %v", n, e)
	}
	staleForAll(t, &x, a, b)
}

// record is a capability in the plain table, which knows who was derived from it.
type record struct {
	c     Cap
	h     Handle
	above *record
	below []*record
}

// plain is a table in the plainest way: trees of records.
type plain struct {
	live []*record
	gens map[int]int
	gone []Handle // the last ones
}

func (p *plain) find(env int, h Handle) *record {
	for _, r := range p.live {
		if r.h == h && r.c.Env == env {
			return r
		}
	}
	return nil
}

func (p *plain) put(c Cap, above *record) (Handle, api.Errno) {
	if len(p.live) == Most {
		return Handle{}, api.ErrFull
	}
	slot := 0
	for slices.ContainsFunc(p.live, func(r *record) bool { return r.h.Slot == slot }) {
		slot++
	}
	p.gens[slot]++
	r := &record{c: c, h: Handle{slot, p.gens[slot]}, above: above}
	if above != nil {
		above.below = append(above.below, r)
	}
	p.live = append(p.live, r)
	return r.h, api.OK
}

func (p *plain) derive(env int, h Handle, to, rights int) (Handle, api.Errno) {
	r := p.find(env, h)
	switch {
	case r == nil:
		return Handle{}, api.ErrStale
	case to < 1 || to > 3 || rights < 1 || rights > 3:
		return Handle{}, api.ErrArg
	case r.c.Rights != 3 && (r.c.Rights != Grant || rights != Grant):
		return Handle{}, api.ErrRight
	}
	return p.put(Cap{to, r.c.Kind, r.c.Number, rights}, r)
}

// fell takes a record, and all below it, out of the plain table.
func (p *plain) fell(r *record) int {
	n := 1
	for _, b := range slices.Clone(r.below) {
		n += p.fell(b)
	}
	if r.above != nil {
		r.above.below = slices.DeleteFunc(r.above.below, func(o *record) bool { return o == r })
	}
	p.live = slices.DeleteFunc(p.live, func(o *record) bool { return o == r })
	p.gone = append(p.gone, r.h)
	p.gone = p.gone[max(0, len(p.gone)-200):]
	return n
}

func (p *plain) drop(env int, h Handle) (int, api.Errno) {
	r := p.find(env, h)
	if r == nil {
		return 0, api.ErrStale
	}
	return p.fell(r), api.OK
}

func (p *plain) revoke(env int, h Handle) (int, api.Errno) {
	r := p.find(env, h)
	if r == nil {
		return 0, api.ErrStale
	}
	n := 0
	for _, b := range slices.Clone(r.below) {
		n += p.fell(b)
	}
	return n, api.OK
}

func (p *plain) dropEnv(env int) int {
	n := 0
	for {
		at := slices.IndexFunc(p.live, func(r *record) bool { return r.c.Env == env })
		if at < 0 {
			return n
		}
		n += p.fell(p.live[at])
	}
}

// some is a handle, mostly of one that is there, and an environment, mostly its owner.
func (p *plain) some(next func(n int) int) (int, Handle) {
	if len(p.live) == 0 || next(12) == 0 {
		return next(5), Handle{next(Most+2) - 1, next(4)}
	}
	if len(p.gone) > 0 && next(12) == 0 {
		return next(5), p.gone[next(len(p.gone))]
	}
	r := p.live[next(len(p.live))]
	if next(8) == 0 {
		return next(5), r.h
	}
	return r.c.Env, r.h
}

// step makes one call of both tables, and tells whether both answer the same.
func step(x *Table, p *plain, next func(n int) int) bool {
	env, h := p.some(next)
	switch what := next(200); {
	case what < 30:
		n, e := x.Drop(env, h)
		m, f := p.drop(env, h)
		return n == m && e == f
	case what < 40:
		n, e := x.Revoke(env, h)
		m, f := p.revoke(env, h)
		return n == m && e == f
	case what == 40:
		env = next(5)
		return x.DropEnv(env) == p.dropEnv(env)
	case what < 80:
		c := Cap{1 + next(3), 1 + next(3), next(64), 1 + next(3)}
		d, e := x.Mint(c)
		k, f := p.put(c, nil)
		return d == k && e == f
	}
	to, rights := next(20)%5, 3-max(0, next(12)-7)
	d, e := x.Derive(env, h, to, rights)
	k, f := p.derive(env, h, to, rights)
	return d == k && e == f
}

// alike tells whether both tables have the same.
func alike(x *Table, p *plain) bool {
	if x.Live() != len(p.live) {
		return false
	}
	for env := range api.MaxEnvs + 2 {
		var want []Handle
		for _, r := range p.live {
			if r.c.Env == env {
				want = append(want, r.h)
			}
		}
		slices.SortFunc(want, func(a, b Handle) int { return a.Slot - b.Slot })
		if !slices.Equal(x.Handles(env), want) {
			return false
		}
	}
	return true
}

// follows tells whether 9.3 to 9.5 hold.
func follows(x *Table, p *plain) bool {
	for _, r := range p.live {
		c, e := x.Look(r.c.Env, r.h)
		if c != r.c || e != api.OK {
			return false
		}
		if r.above == nil {
			continue
		}
		above, e := x.Look(r.above.c.Env, r.above.h)
		if e != api.OK || c.Rights&above.Rights != c.Rights || c.Kind != above.Kind || c.Number != above.Number {
			return false
		}
	}
	for _, h := range p.gone {
		for env := range api.MaxEnvs + 2 {
			if _, e := x.Look(env, h); e != api.ErrStale {
				return false
			}
		}
	}
	return true
}

func TestManySteps(t *testing.T) { // 9.1 to 9.5, R6: held against a plain table, over many calls
	x, p := New(), &plain{gens: map[int]int{}}
	seed := uint32(1)
	next := func(n int) int {
		seed = seed*1664525 + 1013904223
		return int((seed >> 16) % uint32(n))
	}
	fullest, deepest := 0, 0
	for i := range 30000 {
		if !step(x, p, next) || !alike(x, p) {
			t.Fatalf("step %d differs", i)
		}
		if i%10 == 0 && !follows(x, p) {
			t.Fatalf("step %d: what follows does not", i)
		}
		fullest = max(fullest, len(p.live))
		for _, r := range p.live {
			depth := 0
			for o := r.above; o != nil; o = o.above {
				depth++
			}
			deepest = max(deepest, depth)
		}
	}
	if fullest != Most || deepest < 6 || len(p.gone) != 200 || p.gens[0] < 50 {
		t.Errorf("too little was asked: %d, %d, %d, %d", fullest, deepest, len(p.gone), p.gens[0])
	}
}
