package binds

import (
	"math"
	"slices"
	"testing"

	"imago/api"
	"imago/caps"
)

// both are both rights.
const both = caps.Use | caps.Grant

// far are numbers that are no environment and no kind.
var far = []int{math.MinInt, -1, 0, 4, math.MaxInt}

func is(t *testing.T, e, want api.Errno) {
	t.Helper()
	if e != want {
		t.Errorf("%v, not %v", e, want)
	}
}

// opened is a Binds of these totals, in which environments 1, 2 .. are open with these quotas.
func opened(t *testing.T, totals [3]int, quotas ...[3]int) *Binds {
	t.Helper()
	b, e := New(totals)
	if e != api.OK || b == nil {
		t.Fatalf("New(%v): %v, %v", totals, b, e)
	}
	for i, quota := range quotas {
		if e := b.Open(i+1, quota); e != api.OK {
			t.Fatalf("Open(%d, %v): %v", i+1, quota, e)
		}
	}
	return b
}

// three is a Binds in which all environments are open.
func three(t *testing.T) *Binds {
	t.Helper()
	return opened(t, [3]int{64, 64, 64}, [3]int{20, 20, 20}, [3]int{20, 20, 20}, [3]int{20, 20, 20})
}

// bind wants that the resource of this number is bound, and is its root.
func bind(t *testing.T, b *Binds, env, kind, want int) caps.Handle {
	t.Helper()
	n, h, e := b.Bind(env, kind)
	if n != want || e != api.OK {
		t.Fatalf("Bind(%d, %d): %d, %v, %v, not %d", env, kind, n, h, e, want)
	}
	return h
}

func share(t *testing.T, b *Binds, env int, h caps.Handle, to, rights int) caps.Handle {
	t.Helper()
	d, e := b.Share(env, h, to, rights)
	if e != api.OK {
		t.Fatalf("Share(%d, %v, %d, %d): %v", env, h, to, rights, e)
	}
	return d
}

// notBound wants this error beside zero values.
func notBound(t *testing.T, b *Binds, env, kind int, want api.Errno) {
	t.Helper()
	if n, h, e := b.Bind(env, kind); n != 0 || h != (caps.Handle{}) || e != want {
		t.Errorf("Bind(%d, %d): %d, %v, %v, not %v", env, kind, n, h, e, want)
	}
}

// notShared wants this error beside a zero handle.
func notShared(t *testing.T, b *Binds, env int, h caps.Handle, to, rights int, want api.Errno) {
	t.Helper()
	if d, e := b.Share(env, h, to, rights); d != (caps.Handle{}) || e != want {
		t.Errorf("Share(%d, %v, %d, %d): %v, %v, not %v", env, h, to, rights, d, e, want)
	}
}

// revoked wants that so many are gone.
func revoked(t *testing.T, b *Binds, env int, h caps.Handle, want int) {
	t.Helper()
	if n, e := b.Revoke(env, h); n != want || e != api.OK {
		t.Errorf("Revoke(%d, %v): %d, %v, not %d", env, h, n, e, want)
	}
}

// paid wants how many each of the environments 1, 2 .. pays for.
func paid(t *testing.T, b *Binds, want ...int) {
	t.Helper()
	for i, n := range want {
		if b.Paid(i+1) != n {
			t.Errorf("Paid(%d): %d, not %d", i+1, b.Paid(i+1), n)
		}
	}
}

// spare wants how many of each kind are free.
func spare(t *testing.T, b *Binds, want ...int) {
	t.Helper()
	if b.Spare() != [3]int(want) {
		t.Errorf("Spare: %v, not %v", b.Spare(), want)
	}
}

// left wants what is left of a quota.
func left(t *testing.T, b *Binds, env int, want ...int) {
	t.Helper()
	if l, e := b.Left(env); l != [3]int(want) || e != api.OK {
		t.Errorf("Left(%d): %v, %v, not %v", env, l, e, want)
	}
}

// list wants which resources of a kind are an owner's.
func list(t *testing.T, b *Binds, env, kind int, want ...int) {
	t.Helper()
	if l := b.List(env, kind); !slices.Equal(l, want) {
		t.Errorf("List(%d, %d): %v, not %v", env, kind, l, want)
	}
}

// isBound wants an owner and a root of a resource.
func isBound(t *testing.T, b *Binds, kind, number, owner int, root caps.Handle) {
	t.Helper()
	if b.Owner(kind, number) != owner || b.Root(kind, number) != root {
		t.Errorf("resource %d of kind %d: %d, %v, not %d, %v", number, kind, b.Owner(kind, number), b.Root(kind, number), owner, root)
	}
}

// good wants a handle that is an environment's, of this resource, and stale for all others.
func good(t *testing.T, b *Binds, env int, h caps.Handle, kind, number int) {
	t.Helper()
	for other := range api.MaxEnvs + 2 {
		n, e := b.Number(other, h, kind)
		if other == env && (n != number || e != api.OK) {
			t.Errorf("Number(%d, %v, %d): %d, %v, not %d", other, h, kind, n, e, number)
		}
		if other != env && (n != 0 || e != api.ErrStale) {
			t.Errorf("Number(%d, %v, %d): %d, %v", other, h, kind, n, e)
		}
	}
}

// all is what a Binds tells, whoever asks.
type all struct {
	owners [5][66]int
	roots  [5][66]caps.Handle
	lists  [5][5][66]bool
	spare  [3]int
	paid   [5]int
	left   [5][3]int
	open   [5]api.Errno
}

func tell(b *Binds) all {
	a := all{spare: b.Spare()}
	for kind := range 5 {
		for number := range 66 {
			a.owners[kind][number] = b.Owner(kind, number-1)
			a.roots[kind][number] = b.Root(kind, number-1)
		}
		for env := range 5 {
			for _, number := range b.List(env, kind) {
				a.lists[env][kind][number] = true
			}
		}
	}
	for env := range 5 {
		a.paid[env] = b.Paid(env)
		a.left[env], a.open[env] = b.Left(env)
	}
	return a
}

// keeps wants that a Binds tells the same behind do.
func keeps(t *testing.T, b *Binds, do func()) {
	t.Helper()
	before := tell(b)
	do()
	if tell(b) != before {
		t.Errorf("changed: %v, not %v", tell(b), before)
	}
}

// stale wants that every call tells that this handle is stale for this environment, ahead of all else, and that nothing changes.
func stale(t *testing.T, b *Binds, env int, h caps.Handle) {
	t.Helper()
	keeps(t, b, func() {
		is(t, b.Free(env, h), api.ErrStale)
		if n, e := b.Revoke(env, h); n != 0 || e != api.ErrStale {
			t.Errorf("Revoke(%d, %v): %d, %v", env, h, n, e)
		}
		for _, kind := range append([]int{1, 2, 3}, far...) {
			if n, e := b.Number(env, h, kind); n != 0 || e != api.ErrStale {
				t.Errorf("Number(%d, %v, %d): %d, %v", env, h, kind, n, e)
			}
		}
		for _, to := range append([]int{1, 2, 3}, far...) {
			notShared(t, b, env, h, to, caps.Use, api.ErrStale)
			notShared(t, b, env, h, to, 0, api.ErrStale)
		}
	})
}

// staleForAll wants that handles are nobody's.
func staleForAll(t *testing.T, b *Binds, handles ...caps.Handle) {
	t.Helper()
	for _, h := range handles {
		for env := range api.MaxEnvs + 2 {
			stale(t, b, env, h)
		}
	}
}

// notOpen wants that an environment is not open, and has nothing.
func notOpen(t *testing.T, b *Binds, env int) {
	t.Helper()
	keeps(t, b, func() {
		is(t, b.Close(env), api.ErrNone)
		for _, kind := range append([]int{1, 2, 3}, far...) {
			notBound(t, b, env, kind, api.ErrNone)
			list(t, b, env, kind)
		}
		if l, e := b.Left(env); l != [3]int{} || e != api.ErrNone {
			t.Errorf("Left(%d): %v, %v", env, l, e)
		}
		if b.Paid(env) != 0 {
			t.Errorf("Paid(%d): %d", env, b.Paid(env))
		}
	})
}

func TestNew(t *testing.T) { // 11.1: quota.New's error, or all is free; and the constant
	if Most != 42 {
		t.Errorf("Most: %d", Most)
	}
	for kind := range 3 {
		for _, n := range []int{math.MinInt, -1, 65, math.MaxInt} {
			totals := [3]int{1, 1, 1}
			totals[kind] = n
			if b, e := New(totals); b != nil || e != api.ErrArg {
				t.Errorf("New(%v): %v, %v", totals, b, e)
			}
		}
	}
	for _, totals := range [][3]int{{}, {64, 64, 64}, {6, 0, 3}, {1, 2, 3}} {
		b := opened(t, totals)
		spare(t, b, totals[:]...)
		for env := -1; env <= api.MaxEnvs+1; env++ {
			notOpen(t, b, env)
		}
		staleForAll(t, b, caps.Handle{}, caps.Handle{Slot: 0, Gen: 1})
		isBound(t, b, api.Frame, 0, 0, caps.Handle{})
	}
}

func TestTwoByThemselves(t *testing.T) { // 11.1: two have nothing together
	a, b := three(t), three(t)
	h := bind(t, a, 1, api.Frame, 0)
	spare(t, b, 64, 64, 64)
	stale(t, b, 1, h)
	bind(t, b, 2, api.Frame, 0)
	isBound(t, a, api.Frame, 0, 1, h)
}

func TestOpen(t *testing.T) { // 11.1: Book.Open's errors, each ahead of the next one
	b := opened(t, [3]int{8, 8, 4}, [3]int{5, 5, 2})
	keeps(t, b, func() {
		for _, env := range far {
			is(t, b.Open(env, [3]int{}), api.ErrArg)
		}
		for kind := range 3 {
			quota := [3]int{9, 9, 9}
			quota[kind] = -1
			is(t, b.Open(1, quota), api.ErrArg)
			is(t, b.Open(2, quota), api.ErrArg)
		}
		is(t, b.Open(1, [3]int{9, 9, 9}), api.ErrSame)
		is(t, b.Open(2, [3]int{4, 1, 1}), api.ErrFull)
		is(t, b.Open(2, [3]int{0, 4, 0}), api.ErrFull)
		is(t, b.Open(2, [3]int{0, 0, 3}), api.ErrFull)
		is(t, b.Open(2, [3]int{0, 0, math.MaxInt}), api.ErrFull)
	})
	is(t, b.Open(2, [3]int{3, 3, 2}), api.OK)
	left(t, b, 1, 5, 5, 2)
	left(t, b, 2, 3, 3, 2)
	spare(t, b, 8, 8, 4)
	notOpen(t, b, 3)
	is(t, b.Open(3, [3]int{}), api.OK)
	left(t, b, 3, 0, 0, 0)
}

func TestExample(t *testing.T) { // the chapter's example
	b := three(t)
	h := bind(t, b, 1, api.Frame, 0)
	x := share(t, b, 1, h, 2, caps.Use)
	is(t, b.Free(1, h), api.OK)
	isBound(t, b, api.Frame, 0, 0, caps.Handle{})
	spare(t, b, 64, 64, 64)
	staleForAll(t, b, h, x)
}

func TestBind(t *testing.T) { // 11.1, 11.3: each kind by itself, the lowest number, and its root
	for kind := api.Frame; kind <= api.Slice; kind++ {
		b := three(t)
		free := [3]int{64, 64, 64}
		var roots []caps.Handle
		for number := range 15 {
			env := number%3 + 1
			h := bind(t, b, env, kind, number)
			roots = append(roots, h)
			free[kind-api.Frame]--
			spare(t, b, free[:]...)
			good(t, b, env, h, kind, number)
		}
		for number, h := range roots {
			isBound(t, b, kind, number, number%3+1, h)
		}
		for env := 1; env <= api.MaxEnvs; env++ {
			list(t, b, env, kind, env-1, env+2, env+5, env+8, env+11)
			rest := [3]int{20, 20, 20}
			rest[kind-api.Frame] = 15
			left(t, b, env, rest[:]...)
		}
		list(t, b, 1, kind%3+1)
		paid(t, b, 5, 5, 5)
		isBound(t, b, kind, 15, 0, caps.Handle{})
	}
}

func TestBindLowest(t *testing.T) { // 11.1: what was freed is bound again, the lowest one first, by whomever
	b := three(t)
	var roots []caps.Handle
	for number := range 9 {
		roots = append(roots, bind(t, b, 1, api.Block, number))
	}
	for _, number := range []int{7, 2, 4} {
		is(t, b.Free(1, roots[number]), api.OK)
	}
	list(t, b, 1, api.Block, 0, 1, 3, 5, 6, 8)
	bind(t, b, 2, api.Block, 2)
	h := bind(t, b, 3, api.Block, 4)
	bind(t, b, 1, api.Block, 7)
	bind(t, b, 2, api.Block, 9)
	list(t, b, 1, api.Block, 0, 1, 3, 5, 6, 7, 8)
	list(t, b, 2, api.Block, 2, 9)
	isBound(t, b, api.Block, 4, 3, h)
	staleForAll(t, b, roots[7], roots[2], roots[4])
}

func TestBindAllThereIs(t *testing.T) { // 11.1, 11.4: up to the last one, of number 63
	b := opened(t, [3]int{1, 2, 64}, [3]int{1, 0, 32}, [3]int{0, 2, 32})
	for number := range 64 {
		env := number/32 + 1
		h := bind(t, b, env, api.Slice, number)
		good(t, b, env, h, api.Slice, number)
	}
	bind(t, b, 1, api.Frame, 0)
	bind(t, b, 2, api.Block, 0)
	bind(t, b, 2, api.Block, 1)
	spare(t, b, 0, 0, 0)
	keeps(t, b, func() {
		for kind := api.Frame; kind <= api.Slice; kind++ {
			notBound(t, b, 1, kind, api.ErrQuota)
			notBound(t, b, 2, kind, api.ErrQuota)
			notBound(t, b, 3, kind, api.ErrNone)
		}
	})
}

func TestBindWrong(t *testing.T) { // 11.1, R4: ErrNone, ErrArg, ErrQuota
	b := opened(t, [3]int{6, 6, 3}, [3]int{2, 0, 1}, [3]int{4, 6, 2})
	bind(t, b, 1, api.Frame, 0)
	bind(t, b, 1, api.Frame, 1)
	keeps(t, b, func() {
		for _, kind := range far {
			notBound(t, b, 1, kind, api.ErrArg)
			notBound(t, b, 2, kind, api.ErrArg)
		}
		notBound(t, b, 1, api.Frame, api.ErrQuota)
		notBound(t, b, 1, api.Block, api.ErrQuota)
	})
	for _, env := range append([]int{3}, far...) {
		notOpen(t, b, env)
	}
	bind(t, b, 1, api.Slice, 0)
	bind(t, b, 2, api.Frame, 2)
}

// paysMost makes an environment bind a frame, and pay for Most capabilities; it is the frame's root, and what the environment shared with itself.
func paysMost(t *testing.T, b *Binds, env int) (caps.Handle, caps.Handle) {
	t.Helper()
	root := bind(t, b, env, api.Frame, len(b.List(1, api.Frame))+len(b.List(2, api.Frame))+len(b.List(3, api.Frame)))
	own := share(t, b, env, root, env, both)
	for i := b.Paid(env); i < Most; i++ {
		share(t, b, env, own, i%3+1, caps.Use)
	}
	return root, own
}

func TestBindFull(t *testing.T) { // 11.1: Most roots; ErrQuota is ahead of ErrFull; what was taken is given back
	b := opened(t, [3]int{42, 64, 64}, [3]int{42, 1, 0})
	var roots []caps.Handle
	for number := range 42 {
		roots = append(roots, bind(t, b, 1, api.Frame, number))
	}
	paid(t, b, Most)
	keeps(t, b, func() {
		notBound(t, b, 1, api.Frame, api.ErrQuota)
		notBound(t, b, 1, api.Slice, api.ErrQuota)
		notBound(t, b, 1, api.Block, api.ErrFull)
		notBound(t, b, 1, api.Block, api.ErrFull)
		notBound(t, b, 1, 4, api.ErrArg)
		notShared(t, b, 1, roots[3], 1, caps.Use, api.ErrFull)
	})
	left(t, b, 1, 0, 1, 0)
	is(t, b.Free(1, roots[17]), api.OK)
	bind(t, b, 1, api.Block, 0)
	keeps(t, b, func() { notBound(t, b, 1, api.Frame, api.ErrFull) })
}

func TestAllPayMost(t *testing.T) { // words: each pays for itself alone, and for all there is room
	b := three(t)
	for env := 1; env <= api.MaxEnvs; env++ {
		root, own := paysMost(t, b, env)
		keeps(t, b, func() {
			notBound(t, b, env, api.Block, api.ErrFull)
			notShared(t, b, env, root, env, caps.Use, api.ErrFull)
			notShared(t, b, env, own, env%3+1, caps.Use, api.ErrFull)
		})
	}
	paid(t, b, Most, Most, Most)
	for env := 1; env <= api.MaxEnvs; env++ {
		revoked(t, b, env, b.Root(api.Frame, env-1), Most-1)
		bind(t, b, env, api.Block, env-1)
	}
	paid(t, b, 2, 2, 2)
}

func TestShare(t *testing.T) { // 11.2: Derive's handle, with each of the rights, from each to each
	for env := 1; env <= api.MaxEnvs; env++ {
		for to := 1; to <= api.MaxEnvs; to++ {
			b := three(t)
			root := bind(t, b, env, api.Slice, 0)
			uses := share(t, b, env, root, to, caps.Use)
			grants := share(t, b, env, root, to, caps.Grant)
			full := share(t, b, env, root, to, both)
			good(t, b, to, uses, api.Slice, 0)
			good(t, b, to, full, api.Slice, 0)
			keeps(t, b, func() {
				if n, e := b.Number(to, grants, api.Slice); n != 0 || e != api.ErrRight {
					t.Errorf("Number: %d, %v", n, e)
				}
				notShared(t, b, to, uses, env, caps.Use, api.ErrRight)
				notShared(t, b, to, grants, env, caps.Use, api.ErrRight)
				notShared(t, b, to, grants, env, both, api.ErrRight)
			})
			good(t, b, env, share(t, b, to, full, env, caps.Use), api.Slice, 0)
			share(t, b, to, grants, env, caps.Grant)
			isBound(t, b, api.Slice, 0, env, root)
		}
	}
}

func TestShareWrong(t *testing.T) { // 11.2: ErrStale, ErrNone, ErrFull, then Derive's errors
	b := opened(t, [3]int{64, 64, 64}, [3]int{20, 20, 20}, [3]int{20, 20, 20})
	root := bind(t, b, 1, api.Frame, 0)
	uses := share(t, b, 1, root, 1, caps.Use)
	wrong := []int{math.MinInt, -1, 0, 4, 7, math.MaxInt}
	keeps(t, b, func() {
		for _, to := range append([]int{3}, far...) {
			for _, rights := range append([]int{1, 2, 3}, wrong...) {
				notShared(t, b, 1, root, to, rights, api.ErrNone)
				notShared(t, b, 1, uses, to, rights, api.ErrNone)
			}
		}
		for _, rights := range wrong {
			notShared(t, b, 1, root, 2, rights, api.ErrArg)
			notShared(t, b, 1, uses, 2, rights, api.ErrArg)
		}
		notShared(t, b, 1, uses, 2, caps.Use, api.ErrRight)
	})
	stale(t, b, 2, root)
	for b.Paid(1) < Most {
		share(t, b, 1, root, 2, caps.Use)
	}
	keeps(t, b, func() {
		notShared(t, b, 1, root, 3, 0, api.ErrNone)
		notShared(t, b, 1, root, 2, 0, api.ErrFull)
		notShared(t, b, 1, uses, 2, caps.Use, api.ErrFull)
		notShared(t, b, 1, uses, 2, 4, api.ErrFull)
	})
	stale(t, b, 2, root)
}

func TestFree(t *testing.T) { // 11.2: by its root alone; the quota's page has one less
	for kind := api.Frame; kind <= api.Slice; kind++ {
		b := three(t)
		bind(t, b, 2, kind, 0)
		root := bind(t, b, 1, kind, 1)
		own := share(t, b, 1, root, 1, both)
		other := share(t, b, 1, own, 2, both)
		below := share(t, b, 2, other, 1, caps.Use)
		keeps(t, b, func() {
			is(t, b.Free(1, own), api.ErrRight)
			is(t, b.Free(2, other), api.ErrRight)
			is(t, b.Free(1, below), api.ErrRight)
		})
		stale(t, b, 2, root)
		stale(t, b, 3, root)
		is(t, b.Free(1, root), api.OK)
		staleForAll(t, b, root, own, other, below)
		isBound(t, b, kind, 1, 0, caps.Handle{})
		list(t, b, 1, kind)
		list(t, b, 2, kind, 0)
		left(t, b, 1, 20, 20, 20)
		paid(t, b, 0, 1, 0)
		again := bind(t, b, 2, kind, 1)
		staleForAll(t, b, root)
		good(t, b, 2, again, kind, 1)
	}
}

func TestForgedHandles(t *testing.T) { // 11.2, 9.2: another slot, another generation
	b := three(t)
	is(t, b.Free(2, bind(t, b, 2, api.Frame, 0)), api.OK)
	h := bind(t, b, 2, api.Frame, 0)
	for _, slot := range []int{math.MinInt, -1, 1, 127, 128, math.MaxInt} {
		stale(t, b, 2, caps.Handle{Slot: slot, Gen: h.Gen})
	}
	for _, gen := range []int{math.MinInt, -1, 0, h.Gen - 1, h.Gen + 1, math.MaxInt} {
		stale(t, b, 2, caps.Handle{Slot: h.Slot, Gen: gen})
	}
	for _, env := range append([]int{1, 3}, far...) {
		stale(t, b, env, h)
	}
	good(t, b, 2, h, api.Frame, 0)
}

func TestRevoke(t *testing.T) { // 11.2: as in caps; nobody pays for what is gone
	b := three(t)
	root := bind(t, b, 1, api.Frame, 0)
	second := share(t, b, 1, root, 2, both)
	third := share(t, b, 2, second, 3, both)
	fourth := share(t, b, 3, third, 1, both)
	aside := share(t, b, 1, root, 3, caps.Use)
	stands := bind(t, b, 3, api.Frame, 1)
	paid(t, b, 3, 1, 2)
	revoked(t, b, 1, fourth, 0)
	paid(t, b, 3, 1, 2)
	revoked(t, b, 2, second, 2)
	paid(t, b, 3, 0, 1)
	staleForAll(t, b, third, fourth)
	good(t, b, 2, second, api.Frame, 0)
	good(t, b, 3, aside, api.Frame, 0)
	stale(t, b, 1, second)
	revoked(t, b, 1, root, 2)
	paid(t, b, 1, 0, 1)
	staleForAll(t, b, second, aside)
	good(t, b, 1, root, api.Frame, 0)
	isBound(t, b, api.Frame, 0, 1, root)
	isBound(t, b, api.Frame, 1, 3, stands)
	revoked(t, b, 1, root, 0)
	spare(t, b, 62, 64, 64)
}

func TestNumber(t *testing.T) { // 11.2: ErrStale, ErrArg, ErrRight
	b := three(t)
	for kind := api.Frame; kind <= api.Slice; kind++ {
		bind(t, b, 1, kind, 0)
		root := bind(t, b, 2, kind, 1)
		grants := share(t, b, 2, root, 3, caps.Grant)
		keeps(t, b, func() {
			for _, other := range append([]int{kind%3 + 1, (kind+1)%3 + 1}, far...) {
				if n, e := b.Number(2, root, other); n != 0 || e != api.ErrArg {
					t.Errorf("Number of kind %d: %d, %v", other, n, e)
				}
				if n, e := b.Number(3, grants, other); n != 0 || e != api.ErrArg {
					t.Errorf("Number of kind %d: %d, %v", other, n, e)
				}
			}
			if n, e := b.Number(3, grants, kind); n != 0 || e != api.ErrRight {
				t.Errorf("Number: %d, %v", n, e)
			}
			good(t, b, 2, root, kind, 1)
		})
		stale(t, b, 1, root)
	}
}

func TestNoSuchResource(t *testing.T) { // 11.3: no kind, no number, no owner
	b := opened(t, [3]int{5, 3, 1}, [3]int{2, 2, 1}, [3]int{3, 1, 0})
	for kind := api.Frame; kind <= api.Slice; kind++ {
		bind(t, b, 1, kind, 0)
	}
	for _, kind := range far {
		for _, number := range []int{math.MinInt, -1, 0, 1, math.MaxInt} {
			isBound(t, b, kind, number, 0, caps.Handle{})
		}
		list(t, b, 1, kind)
		list(t, b, 0, kind)
	}
	for kind, total := range [3]int{5, 3, 1} {
		for _, number := range []int{math.MinInt, -1, 1, total - 1, total, total + 1, 63, 64, math.MaxInt} {
			if number == 0 { // of the kind that has one alone
				continue
			}
			isBound(t, b, kind+api.Frame, number, 0, caps.Handle{})
		}
		for _, env := range append([]int{2, 3}, far...) {
			list(t, b, env, kind+api.Frame)
		}
	}
	for _, env := range append([]int{2, 3}, far...) {
		if b.Paid(env) != 0 {
			t.Errorf("Paid(%d): %d", env, b.Paid(env))
		}
	}
}

func TestListIsNew(t *testing.T) { // R3: what is answered is its caller's
	b := three(t)
	for number := range 3 {
		bind(t, b, 1, api.Frame, number)
	}
	l := b.List(1, api.Frame)
	clear(l[:cap(l)])
	list(t, b, 1, api.Frame, 0, 1, 2)
	bind(t, b, 1, api.Frame, 3)
}

func TestPaid(t *testing.T) { // words, 11.3: who derives pays, whosever it becomes, and as long as it is there
	b := three(t)
	root := bind(t, b, 1, api.Block, 0)
	paid(t, b, 1, 0, 0)
	a := share(t, b, 1, root, 2, both)
	share(t, b, 1, root, 2, both)
	paid(t, b, 3, 0, 0)
	c := share(t, b, 2, a, 3, both)
	share(t, b, 2, a, 1, both)
	paid(t, b, 3, 2, 0)
	share(t, b, 3, c, 3, caps.Use)
	paid(t, b, 3, 2, 1)
	bind(t, b, 3, api.Frame, 0)
	paid(t, b, 3, 2, 2)
	revoked(t, b, 3, c, 1)
	paid(t, b, 3, 2, 1)
	is(t, b.Free(1, root), api.OK)
	paid(t, b, 0, 0, 1)
}

func TestClose(t *testing.T) { // 11.1, 11.6: in the midst of a chain, each of them
	for env := 1; env <= api.MaxEnvs; env++ {
		b := three(t)
		root := bind(t, b, 1, api.Frame, 0)
		second := share(t, b, 1, root, 2, both)
		third := share(t, b, 2, second, 3, both)
		fourth := share(t, b, 3, third, 1, both)
		frame, slice := bind(t, b, 2, api.Frame, 1), bind(t, b, 3, api.Slice, 0)
		lent := share(t, b, 3, slice, 1, both)
		is(t, b.Close(env), api.OK)
		notOpen(t, b, env)
		switch env {
		case 1:
			staleForAll(t, b, root, second, third, fourth, lent)
			good(t, b, 2, frame, api.Frame, 1)
			good(t, b, 3, slice, api.Slice, 0)
			paid(t, b, 0, 1, 1)
			spare(t, b, 63, 64, 63)
			isBound(t, b, api.Frame, 0, 0, caps.Handle{})
			isBound(t, b, api.Frame, 1, 2, frame)
		case 2:
			staleForAll(t, b, second, third, fourth, frame)
			good(t, b, 1, root, api.Frame, 0)
			good(t, b, 1, lent, api.Slice, 0)
			paid(t, b, 1, 0, 2)
			spare(t, b, 63, 64, 63)
			isBound(t, b, api.Frame, 0, 1, root)
			isBound(t, b, api.Frame, 1, 0, caps.Handle{})
		case 3:
			staleForAll(t, b, third, fourth, slice, lent)
			good(t, b, 2, second, api.Frame, 0)
			paid(t, b, 2, 1, 0)
			spare(t, b, 62, 64, 64)
			isBound(t, b, api.Slice, 0, 0, caps.Handle{})
		}
	}
}

func TestOpenAgain(t *testing.T) { // 11.1, 11.6: it has nothing, may have all, and its old handles stay stale
	b := opened(t, [3]int{4, 4, 4}, [3]int{4, 2, 1}, [3]int{0, 2, 3})
	var old []caps.Handle
	for number := range 4 {
		old = append(old, bind(t, b, 1, api.Frame, number))
	}
	old = append(old, share(t, b, 1, old[2], 2, both))
	is(t, b.Open(3, [3]int{1, 0, 0}), api.ErrFull)
	is(t, b.Close(1), api.OK)
	is(t, b.Close(1), api.ErrNone)
	spare(t, b, 4, 4, 4)
	is(t, b.Open(3, [3]int{1, 0, 0}), api.OK)
	is(t, b.Open(1, [3]int{4, 0, 0}), api.ErrFull)
	is(t, b.Open(1, [3]int{3, 2, 1}), api.OK)
	left(t, b, 1, 3, 2, 1)
	staleForAll(t, b, old...)
	bind(t, b, 3, api.Frame, 0)
	for number := 1; number < 4; number++ {
		bind(t, b, 1, api.Frame, number)
	}
	notBound(t, b, 1, api.Frame, api.ErrQuota)
	staleForAll(t, b, old...)
}

func TestNil(t *testing.T) { // Open ErrState (ErrArg first), Bind, Close and Left ErrNone, others ErrStale; it has nothing
	for _, b := range []*Binds{nil, {}} {
		for env := 1; env <= api.MaxEnvs; env++ {
			is(t, b.Open(env, [3]int{}), api.ErrState)
			is(t, b.Open(env, [3]int{65, 65, 65}), api.ErrState)
			is(t, b.Open(env, [3]int{0, 0, -1}), api.ErrArg)
		}
		for _, env := range far {
			is(t, b.Open(env, [3]int{}), api.ErrArg)
			notOpen(t, b, env)
		}
		for env := 1; env <= api.MaxEnvs; env++ {
			notOpen(t, b, env)
		}
		staleForAll(t, b, caps.Handle{}, caps.Handle{Slot: 0, Gen: 1})
		spare(t, b, 0, 0, 0)
		if tell(b).owners != [5][66]int{} || tell(b).roots != [5][66]caps.Handle{} {
			t.Error("it has something")
		}
	}
}

// numbers are some that hang on a seed alone.
func numbers(seed uint32) func(n int) int {
	return func(n int) int {
		seed = seed*1664525 + 1013904223
		return int((seed >> 16) % uint32(n))
	}
}

// ownStep is one thing that environment 1 does by itself; it tells the error of it.
func ownStep(b *Binds, roots *[]caps.Handle, next func(n int) int) api.Errno {
	what, kind, at := next(10), 1+next(3), next(1+len(*roots))
	switch {
	case what < 6 || at == len(*roots):
		_, h, e := b.Bind(1, kind)
		if e == api.OK {
			*roots = append(*roots, h)
		}
		return e
	case what < 8:
		_, e := b.Share(1, (*roots)[at], 1, both)
		return e
	case what == 8:
		_, e := b.Revoke(1, (*roots)[at])
		return e
	}
	e := b.Free(1, (*roots)[at])
	*roots = slices.Delete(*roots, at, at+1)
	return e
}

// othersStep is one thing that environments 2 and 3 do, with each other and for environment 1.
func othersStep(b *Binds, next func(n int) int) {
	env, kind := 2+next(2), 1+next(3)
	l := b.List(env, kind)
	switch what := next(20); {
	case what == 0:
		b.Close(env)
	case what < 4:
		b.Open(env, [3]int{next(50), next(50), next(50)})
	case what < 10 || len(l) == 0:
		b.Bind(env, kind)
	case what < 12:
		b.Free(env, b.Root(kind, l[next(len(l))]))
	default:
		b.Share(env, b.Root(kind, l[next(len(l))]), 1+next(3), 1+next(3))
	}
}

func TestApart(t *testing.T) { // 11.5: whether Bind finds one is the same, whatever others do
	for seed := range uint32(20) {
		quota := [3]int{20, 25, 3}
		alone, amidst := opened(t, [3]int{64, 64, 64}, quota), opened(t, [3]int{64, 64, 64}, quota)
		var aloneRoots, amidstRoots []caps.Handle
		mine, same, others := numbers(seed), numbers(seed), numbers(seed+100)
		var found, spent, full, moved int
		for i := range 1000 {
			for range others(8) {
				othersStep(amidst, others)
			}
			e, f := ownStep(alone, &aloneRoots, mine), ownStep(amidst, &amidstRoots, same)
			if e != f || alone.Paid(1) != amidst.Paid(1) {
				t.Fatalf("step %d: %v alone, %v amidst others", i, e, f)
			}
			switch e {
			case api.OK:
				found++
			case api.ErrQuota:
				spent++
			case api.ErrFull:
				full++
			}
			if !slices.Equal(alone.List(1, api.Frame), amidst.List(1, api.Frame)) {
				moved++
			}
		}
		if found < 300 || spent < 50 || full < 20 || moved < 20 {
			t.Errorf("too little was asked: %d, %d, %d, %d", found, spent, full, moved)
		}
	}
}

// record is a capability of the plain model.
type record struct {
	h                                  caps.Handle
	owner, payer, kind, number, rights int
	above                              *record // nil of a root
}

// plain is a Binds in the plainest way: a list of all capabilities, and of those that are gone.
type plain struct {
	totals [3]int
	quotas map[int][3]int // of those that are open
	live   []*record
	gone   []caps.Handle // the last ones
	given  map[caps.Handle]int
}

func (p *plain) find(env int, h caps.Handle) *record {
	at := slices.IndexFunc(p.live, func(r *record) bool { return r.h == h && r.owner == env })
	if at < 0 {
		return nil
	}
	return p.live[at]
}

func (p *plain) count(has func(r *record) bool) int {
	n := 0
	for _, r := range p.live {
		if has(r) {
			n++
		}
	}
	return n
}

func (p *plain) pays(env int) int {
	return p.count(func(r *record) bool { return r.payer == env })
}

func (p *plain) has(env, kind int) int {
	return p.count(func(r *record) bool { return r.above == nil && r.owner == env && r.kind == kind })
}

// root is a resource's root, or nil.
func (p *plain) root(kind, number int) *record {
	at := slices.IndexFunc(p.live, func(r *record) bool { return r.above == nil && r.kind == kind && r.number == number })
	if at < 0 {
		return nil
	}
	return p.live[at]
}

// put puts a record, and tells whether its handle is one that was never given before.
func (p *plain) put(r record) bool {
	p.live = append(p.live, &r)
	p.given[r.h]++
	return p.given[r.h] == 1
}

// fell takes those that are meant out of the model, and what is below them, and tells how many.
func (p *plain) fell(meant func(r *record) bool) int {
	var stay []*record
	n := 0
	for _, r := range p.live {
		o := r
		for o != nil && !meant(o) {
			o = o.above
		}
		if o == nil {
			stay = append(stay, r)
			continue
		}
		n++
		p.gone = append(p.gone, r.h)
	}
	p.live, p.gone = stay, p.gone[max(0, len(p.gone)-60):]
	return n
}

func (p *plain) open(env int, quota [3]int) api.Errno {
	if env < 1 || env > 3 {
		return api.ErrArg
	}
	if _, there := p.quotas[env]; there {
		return api.ErrSame
	}
	sum := quota
	for _, q := range p.quotas {
		for i := range sum {
			sum[i] += q[i]
		}
	}
	for i := range sum {
		if sum[i] > p.totals[i] {
			return api.ErrFull
		}
	}
	p.quotas[env] = quota
	return api.OK
}

func (p *plain) close(env int) api.Errno {
	if _, there := p.quotas[env]; !there {
		return api.ErrNone
	}
	delete(p.quotas, env)
	p.fell(func(r *record) bool { return r.owner == env })
	return api.OK
}

// mayBind is the error of a Bind, and else the number.
func (p *plain) mayBind(env, kind int) (int, api.Errno) {
	quota, there := p.quotas[env]
	switch {
	case !there:
		return 0, api.ErrNone
	case kind < 1 || kind > 3:
		return 0, api.ErrArg
	case p.has(env, kind) == quota[kind-1]:
		return 0, api.ErrQuota
	case p.pays(env) == Most:
		return 0, api.ErrFull
	}
	number := 0
	for p.root(kind, number) != nil {
		number++
	}
	return number, api.OK
}

// mayShare is the error of a Share.
func (p *plain) mayShare(env int, h caps.Handle, to, rights int) api.Errno {
	r := p.find(env, h)
	_, there := p.quotas[to]
	switch {
	case r == nil:
		return api.ErrStale
	case !there:
		return api.ErrNone
	case p.pays(env) == Most:
		return api.ErrFull
	case rights < 1 || rights > 3:
		return api.ErrArg
	case r.rights&caps.Grant == 0 || rights&^r.rights != 0:
		return api.ErrRight
	}
	return api.OK
}

// mayFree is the error of a Free.
func (p *plain) mayFree(env int, h caps.Handle) api.Errno {
	r := p.find(env, h)
	switch {
	case r == nil:
		return api.ErrStale
	case r.above != nil:
		return api.ErrRight
	}
	return api.OK
}

// number is what Number answers.
func (p *plain) number(env int, h caps.Handle, kind int) (int, api.Errno) {
	r := p.find(env, h)
	switch {
	case r == nil:
		return 0, api.ErrStale
	case r.kind != kind:
		return 0, api.ErrArg
	case r.rights&caps.Use == 0:
		return 0, api.ErrRight
	}
	return r.number, api.OK
}

// some is a handle, mostly of one that is there, and an environment, mostly its owner.
func (p *plain) some(next func(n int) int) (int, caps.Handle) {
	if len(p.live) == 0 || next(20) == 0 {
		return next(5), caps.Handle{Slot: next(130) - 1, Gen: next(4)}
	}
	if len(p.gone) > 0 && next(20) == 0 {
		return next(5), p.gone[next(len(p.gone))]
	}
	r := p.live[next(len(p.live))]
	if next(12) == 0 {
		return next(5), r.h
	}
	return r.owner, r.h
}

// bindStep binds in both, and tells whether they answer the same.
func bindStep(b *Binds, p *plain, env, kind int) bool {
	want, f := p.mayBind(env, kind)
	n, h, e := b.Bind(env, kind)
	if e != f || n != want || (e != api.OK) != (h == caps.Handle{}) {
		return false
	}
	return e != api.OK || p.put(record{h: h, owner: env, payer: env, kind: kind, number: n, rights: both})
}

// shareStep shares in both, and tells whether they answer the same.
func shareStep(b *Binds, p *plain, env int, h caps.Handle, to, rights int) bool {
	r, f := p.find(env, h), p.mayShare(env, h, to, rights)
	d, e := b.Share(env, h, to, rights)
	if e != f || (e != api.OK) != (d == caps.Handle{}) {
		return false
	}
	return e != api.OK || p.put(record{h: d, owner: to, payer: env, kind: r.kind, number: r.number, rights: rights, above: r})
}

// step makes one call of both, and tells whether they answer the same.
func step(b *Binds, p *plain, next func(n int) int) bool {
	env, h := p.some(next)
	switch what := next(400); {
	case what < 2:
		env = next(5)
		return b.Close(env) == p.close(env)
	case what < 20:
		env, quota := next(5), [3]int{next(30), next(30), next(12)}
		return b.Open(env, quota) == p.open(env, quota)
	case what < 35:
		want := p.mayFree(env, h)
		if want == api.OK {
			p.fell(func(r *record) bool { return r.h == h })
		}
		return b.Free(env, h) == want
	case what < 50:
		r, want := p.find(env, h), api.ErrStale
		n := p.fell(func(o *record) bool { return r != nil && o.above == r })
		if r != nil {
			want = api.OK
		}
		m, e := b.Revoke(env, h)
		return m == n && e == want
	case what < 150:
		return bindStep(b, p, next(5), 1+next(20)%4)
	}
	return shareStep(b, p, env, h, next(20)%5, 3-max(0, next(12)-7))
}

// alike tells whether both have the same, and whether 11.4 holds.
func alike(b *Binds, p *plain) bool {
	for kind := 1; kind <= 3; kind++ {
		free := 0
		var lists [5][]int
		for number := range p.totals[kind-1] {
			r := p.root(kind, number)
			if r == nil {
				free++
				r = &record{}
			} else if n, e := b.Number(r.owner, r.h, kind); n != number || e != api.OK {
				return false
			}
			lists[r.owner] = append(lists[r.owner], number)
			if b.Owner(kind, number) != r.owner || b.Root(kind, number) != r.h {
				return false
			}
		}
		lists[0] = nil
		for env := range 5 {
			l, _ := b.Left(env)
			if !slices.Equal(b.List(env, kind), lists[env]) || l[kind-1] != p.quotas[env][kind-1]-len(lists[env]) {
				return false
			}
		}
		if b.Spare()[kind-1] != free {
			return false
		}
	}
	for env := range 5 {
		_, e := b.Left(env)
		_, there := p.quotas[env]
		if b.Paid(env) != p.pays(env) || (e == api.OK) != there {
			return false
		}
	}
	return true
}

// handlesAlike tells whether all handles, those that are gone too, are good and stale where they are in the model.
func handlesAlike(b *Binds, p *plain) bool {
	handles := slices.Clone(p.gone)
	for _, r := range p.live {
		handles = append(handles, r.h)
	}
	for _, h := range handles {
		for env := range 5 {
			for kind := range 5 {
				n, e := b.Number(env, h, kind)
				if m, f := p.number(env, h, kind); n != m || e != f {
					return false
				}
			}
		}
	}
	return true
}

func TestManySteps(t *testing.T) { // 11.1 to 11.6, R6: held against the plain model, over many calls
	totals := [3]int{50, 60, 20}
	b, p := opened(t, totals), &plain{totals: totals, quotas: map[int][3]int{}, given: map[caps.Handle]int{}}
	next := numbers(1)
	most, fullest, spent := 0, 0, 0
	for i := range 30000 {
		if !step(b, p, next) || !alike(b, p) {
			t.Fatalf("step %d differs", i)
		}
		if i%20 == 0 && !handlesAlike(b, p) {
			t.Fatalf("step %d: handles differ", i)
		}
		fullest = max(fullest, len(p.live))
		for env := range p.quotas {
			if p.pays(env) == Most {
				most++
			}
		}
		if p.has(1, api.Frame) == p.quotas[1][0] && p.has(1, api.Frame) > 0 {
			spent++
		}
	}
	if most < 1000 || fullest < 2*Most || spent < 100 || len(p.given) < 3000 {
		t.Errorf("too little was asked: %d, %d, %d, %d", most, fullest, spent, len(p.given))
	}
}
