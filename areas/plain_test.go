package areas

import (
	"math/rand/v2"
	"slices"
	"testing"

	"imago/api"
)

// plain is a list in the plainest way: for each process the pages that are free, and the areas in the order in which they came.
type plain struct {
	taken [7][16]bool
	areas []Area
}

// mark makes an area's pages taken, or free.
func (m *plain) mark(a Area, taken bool) {
	for page := a.First; page < a.First+a.Count; page++ {
		m.taken[a.PID][page] = taken
	}
}

func (m *plain) enter(a Area) {
	m.mark(a, true)
	m.areas = append(m.areas, a)
}

// count is how many areas a process has.
func (m *plain) count(pid int) int {
	n := 0
	for _, a := range m.areas {
		if a.PID == pid {
			n++
		}
	}
	return n
}

func (m *plain) place(pid, n int) (int, api.Errno) {
	if pid < 1 || pid > 6 || n < 1 || n > 16 {
		return 0, api.ErrArg
	}
	if m.count(pid) == 4 {
		return 0, api.ErrFull
	}
	run := 0
	for page, taken := range m.taken[pid] {
		run++
		if taken {
			run = 0
		}
		if run == n {
			m.enter(Area{pid, page - n + 1, n})
			return page - n + 1, api.OK
		}
	}
	return 0, api.ErrFull
}

func (m *plain) unmap(pid, first int) (int, api.Errno) {
	for i, a := range m.areas {
		if a.PID == pid && a.First == first {
			m.mark(a, false)
			m.areas = slices.Delete(m.areas, i, i+1)
			return a.Count, api.OK
		}
	}
	return 0, api.ErrNone
}

func (m *plain) fork(parent, child int) api.Errno {
	if parent < 1 || parent > 6 || child < 1 || child > 6 || parent == child {
		return api.ErrArg
	}
	if m.count(child) > 0 {
		return api.ErrState
	}
	for _, a := range slices.Clone(m.areas) {
		if a.PID == parent {
			m.enter(Area{child, a.First, a.Count})
		}
	}
	return api.OK
}

func (m *plain) drop(pid int) int {
	n := m.count(pid)
	for _, a := range m.areas {
		if a.PID == pid {
			m.mark(a, false)
		}
	}
	m.areas = slices.DeleteFunc(m.areas, func(a Area) bool { return a.PID == pid })
	return n
}

// step makes one call of both, and tells the error, and whether they answer the same.
func step(x *List, m *plain, r *rand.Rand) (api.Errno, bool) {
	pid := r.IntN(6) + 1
	if r.IntN(20) == 0 {
		pid = r.IntN(12) - 3
	}
	switch what := r.IntN(30); {
	case what < 12:
		n := r.IntN(r.IntN(19) + 1)
		first, e := x.Map(pid, n)
		w, f := m.place(pid, n)
		return e, first == w && e == f
	case what < 25:
		first := r.IntN(19) - 1
		n, e := x.Unmap(pid, first)
		w, f := m.unmap(pid, first)
		return e, n == w && e == f
	case what < 28:
		child := r.IntN(8)
		e := x.Fork(pid, child)
		return e, e == m.fork(pid, child)
	}
	return api.OK, x.Drop(pid) == m.drop(pid)
}

// pages is what Has tells of all pages.
func pages(x *List) [7][16]bool {
	var l [7][16]bool
	for pid := range l {
		for page := range l[pid] {
			l[pid][page] = x.Has(pid, page)
		}
	}
	return l
}

func TestManySteps(t *testing.T) { // 26.1 to 26.5, R4, R6: held against the plain model, over many calls
	for seed := range uint64(4) {
		r := rand.New(rand.NewPCG(seed, 26))
		x, m := New(), plain{}
		told := map[api.Errno]int{}
		for i := range 20000 {
			e, same := step(x, &m, r)
			if !same || !slices.Equal(x.All(), m.areas) || pages(x) != m.taken {
				t.Fatalf("step %d differs: %v, not %v", i, x.All(), m.areas)
			}
			told[e]++
			if r.IntN(100) == 0 {
				x = loaded(t, x.All()...)
			}
		}
		for _, e := range []api.Errno{api.OK, api.ErrArg, api.ErrFull, api.ErrNone, api.ErrState} {
			if told[e] < 100 {
				t.Errorf("too little was asked: %v %d times", e, told[e])
			}
		}
	}
}

// right tells whether Load takes a list, by the chapter's words.
func right(l []Area) bool {
	var m plain
	for _, a := range l {
		if a.PID < 1 || a.PID > 6 || a.Count < 1 || a.First < 0 || a.First+a.Count > 16 || m.count(a.PID) == 4 {
			return false
		}
		if slices.Contains(m.taken[a.PID][a.First:a.First+a.Count], true) {
			return false
		}
		m.enter(a)
	}
	return true
}

func TestManyLoads(t *testing.T) { // 26.2: held against the chapter's words, over many lists, most of which are nearly right
	r := rand.New(rand.NewPCG(5, 26))
	loads := map[bool]int{}
	for range 60000 {
		var l []Area
		for range r.IntN(9) {
			a := Area{r.IntN(2) + 1, r.IntN(14), r.IntN(3) + 1}
			if r.IntN(12) == 0 {
				a = Area{r.IntN(8), r.IntN(17), r.IntN(18)}
			}
			l = append(l, a)
		}
		x, e := Load(l)
		want := right(l)
		loads[want]++
		if want != (e == api.OK) || want != (x != nil) || !want && e != api.ErrForm {
			t.Fatalf("Load(%v): %v, %v", l, x, e)
		}
		if want && !slices.Equal(x.All(), l) {
			t.Fatalf("loaded: %v, not %v", x.All(), l)
		}
	}
	if loads[true] < 3000 || loads[false] < 3000 {
		t.Errorf("too little was loaded: %v", loads)
	}
}
