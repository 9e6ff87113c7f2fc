package desc

import (
	"math/rand/v2"
	"slices"
	"testing"

	"imago/api"
)

// plain is a table in the plainest way: a list, by processes, then by slots.
type plain []Entry

// at is the place of a descriptor in the list, or -1.
func (m plain) at(pid, slot int) int {
	return slices.IndexFunc(m, func(e Entry) bool { return e.PID == pid && e.Slot == slot })
}

// stand enters a descriptor at the lowest free slot.
func (m *plain) stand(e Entry) (int, api.Errno) {
	for e.Slot = 0; m.at(e.PID, e.Slot) >= 0; e.Slot++ {
		if e.Slot == 5 {
			return 0, api.ErrFull
		}
	}
	m.enter(e)
	return e.Slot, api.OK
}

func (m *plain) enter(e Entry) {
	*m = append(*m, e)
	slices.SortFunc(*m, func(a, b Entry) int { return (a.PID-b.PID)*6 + a.Slot - b.Slot })
}

// isObject tells whether there is an object of that kind.
func isObject(kind, obj int) bool {
	return slices.Contains([][2]int{{1, 0}, {2, 0}, {2, 1}, {2, 2}, {2, 3}, {3, 0}, {3, 1}, {3, 2}, {4, 0}, {4, 1}, {4, 2}}, [2]int{kind, obj})
}

func (m *plain) add(pid, kind, obj int) (int, api.Errno) {
	if pid < 1 || pid > 6 || !isObject(kind, obj) {
		return 0, api.ErrArg
	}
	return m.stand(Entry{PID: pid, Kind: kind, Obj: obj})
}

func (m *plain) seek(pid, slot, off int) api.Errno {
	i := m.at(pid, slot)
	if i < 0 {
		return api.ErrNone
	}
	if off < 0 || off > 32 || off > 0 && (*m)[i].Kind != 2 {
		return api.ErrArg
	}
	(*m)[i].Off = off
	return api.OK
}

func (m *plain) dup(pid, slot int) (int, api.Errno) {
	i := m.at(pid, slot)
	if i < 0 {
		return 0, api.ErrNone
	}
	return m.stand((*m)[i])
}

func (m *plain) close(pid, slot int) api.Errno {
	i := m.at(pid, slot)
	if i < 0 {
		return api.ErrNone
	}
	*m = slices.Delete(*m, i, i+1)
	return api.OK
}

// count is how many descriptors a process has.
func (m plain) count(pid int) int {
	n := 0
	for _, e := range m {
		if e.PID == pid {
			n++
		}
	}
	return n
}

func (m *plain) fork(parent, child int) api.Errno {
	if parent < 1 || parent > 6 || child < 1 || child > 6 || parent == child {
		return api.ErrArg
	}
	if m.count(child) > 0 {
		return api.ErrState
	}
	for _, e := range slices.Clone(*m) {
		if e.PID == parent {
			e.PID = child
			m.enter(e)
		}
	}
	return api.OK
}

func (m *plain) drop(pid int) int {
	n := m.count(pid)
	*m = slices.DeleteFunc(*m, func(e Entry) bool { return e.PID == pid })
	return n
}

// step makes one call of both, and tells the error, and whether they answer the same.
func step(x *Table, m *plain, r *rand.Rand) (api.Errno, bool) {
	pid, slot := r.IntN(6)+1, r.IntN(6)
	if r.IntN(20) == 0 {
		pid, slot = r.IntN(12)-3, r.IntN(12)-3
	}
	switch what := r.IntN(40); {
	case what < 10:
		kind, obj := r.IntN(5), r.IntN(4)
		n, e := x.Add(pid, kind, obj)
		w, f := m.add(pid, kind, obj)
		return e, n == w && e == f
	case what < 14:
		n, e := x.Dup(pid, slot)
		w, f := m.dup(pid, slot)
		return e, n == w && e == f
	case what < 23:
		off := r.IntN(36) - 2
		e := x.Seek(pid, slot, off)
		return e, e == m.seek(pid, slot, off)
	case what < 30:
		e := x.Close(pid, slot)
		return e, e == m.close(pid, slot)
	case what < 33:
		child := r.IntN(8)
		e := x.Fork(pid, child)
		return e, e == m.fork(pid, child)
	case what < 34:
		return api.OK, x.Drop(pid) == m.drop(pid)
	}
	kind, obj := r.IntN(6), r.IntN(5)
	return api.OK, x.Refs(kind, obj) == len(slices.DeleteFunc(slices.Clone(*m), func(e Entry) bool { return e.Kind != kind || e.Obj != obj }))
}

// got is what Get tells of all places, one behind the other.
func got(x *Table) plain {
	var l plain
	for pid := -1; pid <= 8; pid++ {
		for slot := -1; slot <= 7; slot++ {
			if e, err := x.Get(pid, slot); err == api.OK {
				l = append(l, e)
			}
		}
	}
	return l
}

func TestManySteps(t *testing.T) { // 24.1 to 24.4, R4, R6: held against the plain model, over many calls
	for seed := range uint64(4) {
		r := rand.New(rand.NewPCG(seed, 24))
		x, m := New(), plain{}
		told := map[api.Errno]int{}
		for i := range 20000 {
			e, same := step(x, &m, r)
			if !same || !slices.Equal(x.List(), m) || !slices.Equal(got(x), m) {
				t.Fatalf("step %d differs: %v, %v", i, x.List(), m)
			}
			told[e]++
			if r.IntN(100) == 0 {
				x = loaded(t, x.List()...)
			}
		}
		for _, e := range []api.Errno{api.OK, api.ErrArg, api.ErrFull, api.ErrNone, api.ErrState} {
			if told[e] < 100 {
				t.Errorf("too little was asked: %v %d times", e, told[e])
			}
		}
	}
}
