package spans

import (
	"math/rand/v2"
	"slices"
	"testing"

	"imago/api"
	"imago/areas"
)

// plain is a table in the plainest way: a list, in the order in which the spans came.
type plain struct{ spans []Span }

// those are the spans that are wanted.
func (m *plain) those(wanted func(Span) bool) []Span {
	return slices.DeleteFunc(slices.Clone(m.spans), func(s Span) bool { return !wanted(s) })
}

func (m *plain) of(pid int) []Span {
	return m.those(func(s Span) bool { return s.PID == pid })
}

// at is the span of a process that a page is in.
func (m *plain) at(pid, page int) (Span, bool) {
	for _, s := range m.of(pid) {
		for i := range s.Count {
			if s.First+i == page {
				return s, true
			}
		}
	}
	return Span{}, false
}

// fits tells whether a process may have one more there.
func (m *plain) fits(s Span) bool {
	for i := range s.Count {
		if _, taken := m.at(s.PID, s.First+i); taken || s.First+i > 15 || s.First+i < 0 {
			return false
		}
	}
	return len(m.of(s.PID)) < 4
}

func (m *plain) place(pid, n int) (int, api.Errno) {
	if pid < 1 || pid > 6 || n < 1 || n > 16 {
		return 0, api.ErrArg
	}
	for first := range 16 {
		if s := (Span{pid, first, n, 3}); m.fits(s) {
			m.spans = append(m.spans, s)
			return first, api.OK
		}
	}
	return 0, api.ErrFull
}

func (m *plain) unmap(pid, first int) (int, api.Errno) {
	i := slices.IndexFunc(m.spans, func(s Span) bool { return s.PID == pid && s.First == first })
	if i < 0 {
		return 0, api.ErrNone
	}
	n := m.spans[i].Count
	m.spans = slices.Delete(m.spans, i, i+1)
	return n, api.OK
}

func (m *plain) protect(pid, first, prot int) api.Errno {
	for i, s := range m.spans {
		if s.PID != pid || s.First != first {
			continue
		}
		if prot != 1 && prot != 3 {
			return api.ErrArg
		}
		m.spans[i].Prot = prot
		return api.OK
	}
	return api.ErrNone
}

func (m *plain) fork(parent, child int) api.Errno {
	if parent < 1 || parent > 6 || child < 1 || child > 6 || parent == child {
		return api.ErrArg
	}
	if len(m.of(child)) > 0 {
		return api.ErrState
	}
	for _, s := range m.of(parent) {
		m.spans = append(m.spans, Span{child, s.First, s.Count, s.Prot})
	}
	return api.OK
}

func (m *plain) drop(pid int) int {
	n := len(m.of(pid))
	m.spans = m.those(func(s Span) bool { return s.PID != pid })
	return n
}

// all are all spans, by processes, then by their first pages.
func (m *plain) all() []Span {
	l := slices.Clone(m.spans)
	slices.SortFunc(l, func(a, b Span) int { return (a.PID-b.PID)*100 + a.First - b.First })
	return l
}

// step makes one call of both, and tells the error, and whether they answer the same.
func step(x *Table, m *plain, r *rand.Rand) (api.Errno, bool) {
	pid := r.IntN(6) + 1
	if r.IntN(20) == 0 {
		pid = r.IntN(12) - 3
	}
	switch what := r.IntN(36); {
	case what < 12:
		n := r.IntN(r.IntN(19) + 1)
		first, e := x.Map(pid, n)
		w, f := m.place(pid, n)
		return e, first == w && e == f
	case what < 25:
		first := r.IntN(19) - 1
		n, e := x.Unmap(pid, first)
		w, f := m.unmap(pid, first)
		return e, n == w && e == f
	case what < 28:
		child := r.IntN(8)
		e := x.Fork(pid, child)
		return e, e == m.fork(pid, child)
	case what < 34:
		first, prot := r.IntN(12)-1, r.IntN(2)*2+1
		if r.IntN(6) == 0 {
			prot = r.IntN(6) - 1
		}
		e := x.Protect(pid, first, prot)
		return e, e == m.protect(pid, first, prot)
	}
	return api.OK, x.Drop(pid) == m.drop(pid)
}

// may tells whether both tell the same of all pages.
func may(x *Table, m *plain) bool {
	for pid := range 8 {
		for page := range 18 {
			s, in := m.at(pid, page-1)
			if x.May(pid, page-1, false) != in || x.May(pid, page-1, true) != (in && s.Prot == 3) {
				return false
			}
		}
	}
	return true
}

func TestManySteps(t *testing.T) { // 27.1, 27.2, 27.4, R4, R6: held against the plain model, over many calls
	for seed := range uint64(4) {
		r := rand.New(rand.NewPCG(seed, 27))
		x, m := New(), plain{}
		told := map[api.Errno]int{}
		for i := range 10000 {
			e, same := step(x, &m, r)
			if !same || !slices.Equal(x.All(), m.all()) || !may(x, &m) {
				t.Fatalf("step %d differs: %v, not %v", i, x.All(), m.all())
			}
			told[e]++
			if r.IntN(100) == 0 {
				x = loaded(t, x.All()...)
			}
		}
		for _, e := range []api.Errno{api.OK, api.ErrArg, api.ErrFull, api.ErrNone, api.ErrState} {
			if told[e] < 100 {
				t.Errorf("too little was asked: %v %d times", e, told[e])
			}
		}
	}
}

// bare are spans as areas, and whether all of them are ReadWrite.
func bare(l []Span) ([]areas.Area, bool) {
	var bared []areas.Area
	for _, s := range l {
		if s.Prot != ReadWrite {
			return nil, false
		}
		bared = append(bared, areas.Area{PID: s.PID, First: s.First, Count: s.Count})
	}
	return bared, true
}

// likeAreas tells whether a table has the areas of a list, whichever order they have there, and tells the same of all pages, whether they are to be written or not.
func likeAreas(x *Table, l *areas.List) bool {
	all := l.All()
	slices.SortFunc(all, func(a, b areas.Area) int { return (a.PID-b.PID)*100 + a.First - b.First })
	bared, writable := bare(x.All())
	for pid := range 8 {
		for page := range 18 {
			has := l.Has(pid, page-1)
			writable = writable && x.May(pid, page-1, false) == has && x.May(pid, page-1, true) == has
		}
	}
	return writable && slices.Equal(bared, all)
}

func TestLikeAreas(t *testing.T) { // 27.3: a table in which nothing is protected tells of each call what a list of areas tells
	r := rand.New(rand.NewPCG(9, 27))
	x, l := New(), areas.New()
	for i := range 20000 {
		pid, n, e, f := r.IntN(8), 0, api.OK, api.OK
		var m int
		switch what := r.IntN(30); {
		case what < 12:
			count := r.IntN(r.IntN(19) + 1)
			n, e = x.Map(pid, count)
			m, f = l.Map(pid, count)
		case what < 25:
			first := r.IntN(19) - 1
			n, e = x.Unmap(pid, first)
			m, f = l.Unmap(pid, first)
		case what < 28:
			child := r.IntN(8)
			e, f = x.Fork(pid, child), l.Fork(pid, child)
		default:
			n, m = x.Drop(pid), l.Drop(pid)
		}
		if n != m || e != f || !likeAreas(x, l) {
			t.Fatalf("step %d: %d, %v; of areas %d, %v: %v, %v", i, n, e, m, f, x.All(), l.All())
		}
	}
}

// right tells whether Load takes a list, by the chapter's words.
func right(l []Span) bool {
	var m plain
	for _, s := range l {
		if s.PID < 1 || s.PID > 6 || s.Count < 1 || s.First < 0 || s.First+s.Count > 16 || s.Prot != 1 && s.Prot != 3 || !m.fits(s) {
			return false
		}
		m.spans = append(m.spans, s)
	}
	return slices.Equal(m.all(), l)
}

func TestManyLoads(t *testing.T) { // 27.2: held against the chapter's words, over many lists, most of which are nearly right
	r := rand.New(rand.NewPCG(5, 27))
	loads := map[bool]int{}
	for range 60000 {
		var l []Span
		pid, page := 1, r.IntN(3)
		for range r.IntN(9) {
			s := Span{pid, page, r.IntN(3) + 1, r.IntN(2)*2 + 1}
			if r.IntN(30) == 0 {
				s = Span{r.IntN(8), r.IntN(17), r.IntN(18), r.IntN(5)}
			}
			l = append(l, s)
			page += r.IntN(3) + 2
			if r.IntN(4) == 0 {
				pid, page = pid+1, r.IntN(4)
			}
		}
		x, e := Load(l)
		want := right(l)
		loads[want]++
		if want != (e == api.OK) || want != (x != nil) || !want && e != api.ErrForm {
			t.Fatalf("Load(%v): %v, %v", l, x, e)
		}
		if want && !slices.Equal(x.All(), l) {
			t.Fatalf("loaded: %v, not %v", x.All(), l)
		}
	}
	if loads[true] < 3000 || loads[false] < 3000 {
		t.Errorf("too little was loaded: %v", loads)
	}
}
