package quota

import (
	"math"
	"testing"

	"imago/api"
)

// book is a book of these totals.
func book(t *testing.T, totals ...int) *Book {
	t.Helper()
	b, e := New([3]int(totals))
	if e != api.OK || b == nil {
		t.Fatalf("New(%v): %v, %v", totals, b, e)
	}
	return b
}

func is(t *testing.T, e, want api.Errno) {
	t.Helper()
	if e != want {
		t.Errorf("%v, not %v", e, want)
	}
}

// told is all that a book tells.
type told struct {
	free      [3]int
	has, left [api.MaxEnvs + 2][3]int
	e, f      [api.MaxEnvs + 2]api.Errno
}

func tell(b *Book) told {
	all := told{free: b.Free()}
	for env := range all.has {
		all.has[env], all.e[env] = b.Has(env)
		all.left[env], all.f[env] = b.Left(env)
	}
	return all
}

// keeps wants that a book tells the same behind do.
func keeps(t *testing.T, b *Book, do func()) {
	t.Helper()
	before := tell(b)
	do()
	if after := tell(b); after != before {
		t.Errorf("changed: %v, not %v", after, before)
	}
}

// pageIs wants what an environment has, and what is left of its quota.
func pageIs(t *testing.T, b *Book, env int, has, left [3]int) {
	t.Helper()
	if h, e := b.Has(env); h != has || e != api.OK {
		t.Errorf("Has(%d): %v, %v, not %v", env, h, e, has)
	}
	if l, e := b.Left(env); l != left || e != api.OK {
		t.Errorf("Left(%d): %v, %v, not %v", env, l, e, left)
	}
}

// notOpen wants that every call tells that an environment is not open, whatever else is wrong, and that nothing changes.
func notOpen(t *testing.T, b *Book, env int) {
	t.Helper()
	keeps(t, b, func() {
		is(t, b.Close(env), api.ErrNone)
		for _, kind := range []int{-1, 0, api.Frame, api.Block, api.Slice, 4} {
			for _, n := range []int{-1, 0, 1, 65} {
				is(t, b.Take(env, kind, n), api.ErrNone)
				is(t, b.Give(env, kind, n), api.ErrNone)
			}
		}
		if h, e := b.Has(env); h != [3]int{} || e != api.ErrNone {
			t.Errorf("Has(%d): %v, %v", env, h, e)
		}
		if l, e := b.Left(env); l != [3]int{} || e != api.ErrNone {
			t.Errorf("Left(%d): %v, %v", env, l, e)
		}
	})
}

func TestNew(t *testing.T) { // 10.1: from 0 to 64
	for _, totals := range [][3]int{{}, {64, 64, 64}, {0, 1, 2}, {64, 0, 63}, {8, 8, 4}} {
		b := book(t, totals[:]...)
		if b.Free() != totals {
			t.Errorf("Free: %v, not %v", b.Free(), totals)
		}
		for env := range api.MaxEnvs + 2 {
			notOpen(t, b, env)
		}
	}
	for kind := range 3 {
		for _, n := range []int{math.MinInt, -1, 65, math.MaxInt} {
			totals := [3]int{1, 2, 3}
			totals[kind] = n
			if b, e := New(totals); b != nil || e != api.ErrArg {
				t.Errorf("New(%v): %v, %v", totals, b, e)
			}
		}
	}
	a, b := book(t, 4, 4, 4), book(t, 4, 4, 4)
	is(t, a.Open(1, [3]int{4, 4, 4}), api.OK)
	notOpen(t, b, 1)
}

func TestOpen(t *testing.T) { // 10.1: it has nothing, and its quota is left
	for env := 1; env <= api.MaxEnvs; env++ {
		for _, quota := range [][3]int{{}, {8, 6, 4}, {1, 2, 3}, {0, 0, 4}} {
			b := book(t, 8, 6, 4)
			is(t, b.Open(env, quota), api.OK)
			pageIs(t, b, env, [3]int{}, quota)
			if b.Free() != [3]int{8, 6, 4} {
				t.Errorf("Free: %v", b.Free())
			}
			for other := range api.MaxEnvs + 2 {
				if other != env {
					notOpen(t, b, other)
				}
			}
		}
	}
}

func TestOpenWrong(t *testing.T) { // 10.1, R1: ErrArg ahead of ErrSame, that ahead of ErrFull
	b := book(t, 8, 6, 4)
	is(t, b.Open(2, [3]int{5, 3, 2}), api.OK)
	is(t, b.Take(2, api.Frame, 1), api.OK)
	keeps(t, b, func() {
		for _, env := range []int{math.MinInt, -1, 0, 4, math.MaxInt} {
			is(t, b.Open(env, [3]int{1, 1, 1}), api.ErrArg)
			is(t, b.Open(env, [3]int{9, 9, 9}), api.ErrArg)
			is(t, b.Open(env, [3]int{-1, 0, 0}), api.ErrArg)
		}
		for kind := range 3 {
			for _, n := range []int{math.MinInt, -1} {
				quota := [3]int{9, 9, 9}
				quota[kind] = n
				is(t, b.Open(1, quota), api.ErrArg)
				is(t, b.Open(2, quota), api.ErrArg)
			}
		}
		is(t, b.Open(2, [3]int{}), api.ErrSame)
		is(t, b.Open(2, [3]int{5, 3, 2}), api.ErrSame)
		is(t, b.Open(2, [3]int{9, 9, 9}), api.ErrSame)
		is(t, b.Open(2, [3]int{math.MaxInt, 0, 0}), api.ErrSame)
	})
	notOpen(t, b, 1)
	notOpen(t, b, 3)
}

func TestOpenFull(t *testing.T) { // 10.1: kind by kind, with all that are open; what is taken counts for nothing
	for kind := range 3 {
		b := book(t, 8, 6, 4)
		is(t, b.Open(3, [3]int{3, 2, 1}), api.OK)
		is(t, b.Open(1, [3]int{4, 2, 1}), api.OK)
		is(t, b.Take(3, api.Frame, 3), api.OK)
		left := [3]int{1, 2, 2}
		for _, more := range []int{1, 2, 60, 1 << 40, math.MaxInt - 3} {
			quota := [3]int{}
			quota[kind] = left[kind] + more
			keeps(t, b, func() { is(t, b.Open(2, quota), api.ErrFull) })
			quota = left
			quota[kind] = left[kind] + more
			keeps(t, b, func() { is(t, b.Open(2, quota), api.ErrFull) })
		}
		notOpen(t, b, 2)
		is(t, b.Open(2, left), api.OK)
		pageIs(t, b, 2, [3]int{}, left)
	}
}

func TestOpenTooMuchForANumber(t *testing.T) { // 10.1: a sum that an int does not hold is more than the totals too
	b := book(t, 64, 64, 64)
	is(t, b.Open(1, [3]int{64, 64, 64}), api.OK)
	for kind := range 3 {
		quota := [3]int{}
		quota[kind] = math.MaxInt
		is(t, b.Open(2, quota), api.ErrFull)
	}
	is(t, b.Open(2, [3]int{math.MaxInt, math.MaxInt, math.MaxInt}), api.ErrFull)
	notOpen(t, b, 2)
}

func TestExample(t *testing.T) { // the chapter's example
	b := book(t, 8, 8, 4)
	is(t, b.Open(1, [3]int{5, 5, 2}), api.OK)
	is(t, b.Open(2, [3]int{4, 1, 1}), api.ErrFull)
}

func TestClose(t *testing.T) { // 10.1: what it had is free, its quota is another one's; opened anew it has nothing
	b := book(t, 8, 6, 4)
	is(t, b.Open(1, [3]int{5, 3, 2}), api.OK)
	is(t, b.Open(2, [3]int{3, 3, 2}), api.OK)
	is(t, b.Take(1, api.Frame, 5), api.OK)
	is(t, b.Take(1, api.Slice, 1), api.OK)
	is(t, b.Take(2, api.Frame, 2), api.OK)
	if b.Free() != [3]int{1, 6, 3} {
		t.Errorf("Free: %v", b.Free())
	}
	is(t, b.Close(1), api.OK)
	notOpen(t, b, 1)
	if b.Free() != [3]int{6, 6, 4} {
		t.Errorf("Free: %v", b.Free())
	}
	pageIs(t, b, 2, [3]int{2, 0, 0}, [3]int{1, 3, 2})
	is(t, b.Open(3, [3]int{6, 3, 2}), api.ErrFull)
	is(t, b.Open(3, [3]int{5, 3, 2}), api.OK)
	is(t, b.Open(1, [3]int{0, 0, 1}), api.ErrFull)
	is(t, b.Close(3), api.OK)
	is(t, b.Open(1, [3]int{4, 0, 1}), api.OK)
	pageIs(t, b, 1, [3]int{}, [3]int{4, 0, 1})
}

func TestTake(t *testing.T) { // 10.2: each kind by itself, up to the quota
	for kind := api.Frame; kind <= api.Slice; kind++ {
		b := book(t, 60, 50, 40)
		quota := [3]int{7, 6, 5}
		is(t, b.Open(2, quota), api.OK)
		has, left, free := [3]int{}, quota, [3]int{60, 50, 40}
		i := kind - api.Frame
		for _, n := range []int{1, 0, 3, quota[i] - 4} {
			keeps(t, b, func() {
				for _, more := range []int{1, 2, 1 << 40, math.MaxInt - left[i]} {
					is(t, b.Take(2, kind, left[i]+more), api.ErrQuota)
				}
			})
			is(t, b.Take(2, kind, n), api.OK)
			has[i], left[i], free[i] = has[i]+n, left[i]-n, free[i]-n
			pageIs(t, b, 2, has, left)
			if b.Free() != free {
				t.Errorf("Free: %v, not %v", b.Free(), free)
			}
		}
		keeps(t, b, func() {
			is(t, b.Take(2, kind, 0), api.OK)
			is(t, b.Take(2, kind, 1), api.ErrQuota)
			is(t, b.Take(2, kind, math.MaxInt), api.ErrQuota)
		})
	}
}

func TestGive(t *testing.T) { // 10.2: each kind by itself, down to nothing
	for kind := api.Frame; kind <= api.Slice; kind++ {
		b := book(t, 60, 50, 40)
		is(t, b.Open(3, [3]int{9, 9, 9}), api.OK)
		has := [3]int{7, 6, 5}
		for i, n := range has {
			is(t, b.Take(3, api.Frame+i, n), api.OK)
		}
		left, free := [3]int{2, 3, 4}, [3]int{53, 44, 35}
		i := kind - api.Frame
		for _, n := range []int{1, 0, 3, has[i] - 4} {
			keeps(t, b, func() {
				for _, more := range []int{1, 2, 1 << 40, math.MaxInt - has[i]} {
					is(t, b.Give(3, kind, has[i]+more), api.ErrArg)
				}
			})
			is(t, b.Give(3, kind, n), api.OK)
			has[i], left[i], free[i] = has[i]-n, left[i]+n, free[i]+n
			pageIs(t, b, 3, has, left)
			if b.Free() != free {
				t.Errorf("Free: %v, not %v", b.Free(), free)
			}
		}
		keeps(t, b, func() {
			is(t, b.Give(3, kind, 0), api.OK)
			is(t, b.Give(3, kind, 1), api.ErrArg)
		})
	}
}

func TestTakeAndGiveWrong(t *testing.T) { // 10.2: no kind, or a number below 0; ErrArg ahead of ErrQuota
	b := book(t, 8, 6, 4)
	is(t, b.Open(1, [3]int{5, 3, 2}), api.OK)
	is(t, b.Take(1, api.Block, 2), api.OK)
	keeps(t, b, func() {
		for _, kind := range []int{math.MinInt, -1, 0, 4, math.MaxInt} {
			for _, n := range []int{-1, 0, 1, 9, math.MaxInt} {
				is(t, b.Take(1, kind, n), api.ErrArg)
				is(t, b.Give(1, kind, n), api.ErrArg)
			}
		}
		for kind := api.Frame; kind <= api.Slice; kind++ {
			for _, n := range []int{math.MinInt, -64, -1} {
				is(t, b.Take(1, kind, n), api.ErrArg)
				is(t, b.Give(1, kind, n), api.ErrArg)
			}
		}
	})
	for _, env := range []int{math.MinInt, -1, 0, 2, 3, 4, math.MaxInt} {
		notOpen(t, b, env)
	}
}

func TestPromisedIsThere(t *testing.T) { // 10.3, 10.4: all quotas are the totals, and each can be taken whole, in any order
	for first := 1; first <= api.MaxEnvs; first++ {
		b := book(t, 10, 20, 64)
		quotas := [4][3]int{1: {5, 0, 60}, 2: {4, 20, 0}, 3: {1, 0, 4}}
		for env := 1; env <= api.MaxEnvs; env++ {
			is(t, b.Open(env, quotas[env]), api.OK)
		}
		for i := range api.MaxEnvs {
			env := (first+i)%api.MaxEnvs + 1
			for kind, n := range quotas[env] {
				others := tell(b)
				is(t, b.Take(env, kind+api.Frame, n), api.OK)
				others.has[env], others.left[env] = tell(b).has[env], tell(b).left[env]
				others.free[kind] -= n
				if tell(b) != others {
					t.Errorf("Take by %d: %v, not %v", env, tell(b), others)
				}
			}
		}
		if b.Free() != [3]int{} {
			t.Errorf("Free: %v", b.Free())
		}
	}
}

func TestNilBook(t *testing.T) { // Open ErrState (ErrArg first), others ErrNone; Free nothing
	var b *Book
	for env := 1; env <= api.MaxEnvs; env++ {
		is(t, b.Open(env, [3]int{}), api.ErrState)
		is(t, b.Open(env, [3]int{1, 2, math.MaxInt}), api.ErrState)
		is(t, b.Open(env, [3]int{1, 2, -1}), api.ErrArg)
	}
	is(t, b.Open(0, [3]int{}), api.ErrArg)
	is(t, b.Open(4, [3]int{}), api.ErrArg)
	for env := -1; env <= api.MaxEnvs+1; env++ {
		notOpen(t, b, env)
	}
	if b.Free() != [3]int{} {
		t.Errorf("Free: %v", b.Free())
	}
}

func TestZeroBook(t *testing.T) { // one that New didn't make has totals of nothing
	var b Book
	notOpen(t, &b, 1)
	is(t, b.Open(1, [3]int{0, 1, 0}), api.ErrFull)
	is(t, b.Open(1, [3]int{}), api.OK)
	pageIs(t, &b, 1, [3]int{}, [3]int{})
	is(t, b.Take(1, api.Frame, 1), api.ErrQuota)
	is(t, b.Close(1), api.OK)
}

// plain is a book of one kind in the plainest way: a list of what each environment has, item by item.
type plain struct {
	total int
	quota [api.MaxEnvs + 1]int
	items [api.MaxEnvs + 1][]struct{}
}

func (p *plain) sum(skip int) int {
	n := 0
	for env, q := range p.quota {
		if env != skip {
			n += q
		}
	}
	return n
}

func (p *plain) free() int {
	n := p.total
	for _, l := range p.items {
		n -= len(l)
	}
	return n
}

// step makes one call of a book and of three plain ones, and tells whether both answer the same.
func step(b *Book, p *[3]plain, open *[api.MaxEnvs + 1]bool, next func(n int) int) bool {
	env, kind, n := 1+next(3), next(3), next(5)
	q := &p[kind]
	switch what := next(40); {
	case what == 0:
		if !open[env] {
			return b.Close(env) == api.ErrNone
		}
		open[env] = false
		for i := range p {
			p[i].quota[env], p[i].items[env] = 0, nil
		}
		return b.Close(env) == api.OK
	case what < 6:
		want, quota := api.OK, [3]int{next(9), next(9), next(9)}
		for i := range p {
			if p[i].sum(env)+quota[i] > p[i].total {
				want = api.ErrFull
			}
		}
		if open[env] {
			want = api.ErrSame
		}
		for i := range p {
			if want == api.OK {
				open[env], p[i].quota[env] = true, quota[i]
			}
		}
		return b.Open(env, quota) == want
	case !open[env]:
		return b.Take(env, kind+1, n) == api.ErrNone && b.Give(env, kind+1, n) == api.ErrNone
	case what < 25:
		if len(q.items[env])+n > q.quota[env] {
			return b.Take(env, kind+1, n) == api.ErrQuota
		}
		q.items[env] = append(q.items[env], make([]struct{}, n)...)
		return b.Take(env, kind+1, n) == api.OK
	}
	if len(q.items[env]) < n {
		return b.Give(env, kind+1, n) == api.ErrArg
	}
	q.items[env] = q.items[env][n:]
	return b.Give(env, kind+1, n) == api.OK
}

// alike tells whether a book has what the plain ones have, and whether what is left of all quotas is free.
func alike(b *Book, p *[3]plain, open *[api.MaxEnvs + 1]bool) bool {
	free := b.Free()
	for env := 1; env <= api.MaxEnvs; env++ {
		has, e := b.Has(env)
		left, f := b.Left(env)
		if (e == api.OK) != open[env] || e != f {
			return false
		}
		for kind := range p {
			n := len(p[kind].items[env])
			if has[kind] != n || left[kind] != p[kind].quota[env]-n {
				return false
			}
			free[kind] -= left[kind]
		}
	}
	for kind, n := range b.Free() {
		if n != p[kind].free() || free[kind] < 0 {
			return false
		}
	}
	return true
}

func TestManySteps(t *testing.T) { // 10.1 to 10.4, R6: held against plain books, over many calls
	b := book(t, 12, 16, 10)
	p := [3]plain{{total: 12}, {total: 16}, {total: 10}}
	var open [api.MaxEnvs + 1]bool
	seed := uint32(1)
	next := func(n int) int {
		seed = seed*1664525 + 1013904223
		return int((seed >> 16) % uint32(n))
	}
	all, spent := 0, 0
	for i := range 100000 {
		if !step(b, &p, &open, next) || !alike(b, &p, &open) {
			t.Fatalf("step %d differs", i)
		}
		if open[1] && open[2] && open[3] {
			all++
		}
		if b.Free()[0] == 0 {
			spent++
		}
	}
	if all < 1000 || spent < 20 {
		t.Errorf("too little was asked: %d, %d", all, spent)
	}
}
