package opens

import (
	"maps"
	"math/rand/v2"
	"slices"
	"testing"

	"imago/api"
	"imago/desc"
)

// plain is a table in the plainest way: which object each process's slot names, by its ID, and what each object is.
type plain struct {
	slots map[[2]int]int
	opens map[int]Open
}

// sweep forgets the objects that no slot names.
func (m plain) sweep() {
	maps.DeleteFunc(m.opens, func(id int, _ Open) bool { return !slices.Contains(slices.Collect(maps.Values(m.slots)), id) })
}

// stand enters an object's ID at the lowest free slot.
func (m plain) stand(pid, id int) (int, api.Errno) {
	for slot := range 6 {
		if _, there := m.slots[[2]int{pid, slot}]; !there {
			m.slots[[2]int{pid, slot}] = id
			return slot, api.OK
		}
	}
	return 0, api.ErrFull
}

// isObject tells whether there is an object of that kind.
func isObject(kind, obj int) bool {
	return slices.Contains([][2]int{{1, 0}, {2, 0}, {2, 1}, {2, 2}, {2, 3}, {3, 0}, {3, 1}, {3, 2}, {4, 0}, {4, 1}, {4, 2}}, [2]int{kind, obj})
}

func (m plain) add(pid, kind, obj int) (int, api.Errno) {
	if pid < 1 || pid > 6 || !isObject(kind, obj) {
		return 0, api.ErrArg
	}
	id := 0
	for _, taken := m.opens[id]; taken; _, taken = m.opens[id] {
		id++
	}
	m.opens[id] = Open{id, kind, obj, 0}
	slot, e := m.stand(pid, id)
	m.sweep()
	return slot, e
}

func (m plain) seek(pid, slot, off int) api.Errno {
	id, there := m.slots[[2]int{pid, slot}]
	if !there {
		return api.ErrNone
	}
	o := m.opens[id]
	if off < 0 || off > 32 || off > 0 && o.Kind != 2 {
		return api.ErrArg
	}
	o.Off = off
	m.opens[id] = o
	return api.OK
}

func (m plain) dup(pid, slot int) (int, api.Errno) {
	id, there := m.slots[[2]int{pid, slot}]
	if !there {
		return 0, api.ErrNone
	}
	return m.stand(pid, id)
}

func (m plain) dup2(pid, slot, to int) api.Errno {
	id, there := m.slots[[2]int{pid, slot}]
	if !there {
		return api.ErrNone
	}
	if to < 0 || to > 5 {
		return api.ErrArg
	}
	m.slots[[2]int{pid, to}] = id
	m.sweep()
	return api.OK
}

func (m plain) close(pid, slot int) api.Errno {
	if _, there := m.slots[[2]int{pid, slot}]; !there {
		return api.ErrNone
	}
	delete(m.slots, [2]int{pid, slot})
	m.sweep()
	return api.OK
}

func (m plain) fork(parent, child int) api.Errno {
	if parent < 1 || parent > 6 || child < 1 || child > 6 || parent == child {
		return api.ErrArg
	}
	for at := range m.slots {
		if at[0] == child {
			return api.ErrState
		}
	}
	for at, id := range maps.Clone(m.slots) {
		if at[0] == parent {
			m.slots[[2]int{child, at[1]}] = id
		}
	}
	return api.OK
}

func (m plain) drop(pid int) int {
	n := len(m.slots)
	maps.DeleteFunc(m.slots, func(at [2]int, _ int) bool { return at[0] == pid })
	m.sweep()
	return n - len(m.slots)
}

func (m plain) refs(kind, obj int) int {
	n := 0
	for _, id := range m.slots {
		if m.opens[id].Kind == kind && m.opens[id].Obj == obj {
			n++
		}
	}
	return n
}

// lists are its objects and slots, in their order.
func (m plain) lists() ([]Open, []Slot) {
	o := slices.SortedFunc(maps.Values(m.opens), func(a, b Open) int { return a.ID - b.ID })
	var s []Slot
	for at, id := range m.slots {
		s = append(s, Slot{at[0], at[1], id})
	}
	slices.SortFunc(s, func(a, b Slot) int { return (a.PID-b.PID)*6 + a.Slot - b.Slot })
	return o, s
}

// step makes one call of both, and tells the error, and whether they answer the same.
func step(x *Table, m plain, r *rand.Rand) (api.Errno, bool) {
	pid, slot := r.IntN(6)+1, r.IntN(6)
	if r.IntN(20) == 0 {
		pid, slot = r.IntN(12)-3, r.IntN(12)-3
	}
	switch what := r.IntN(46); {
	case what < 10:
		kind, obj := r.IntN(5), r.IntN(4)
		n, e := x.Add(pid, kind, obj)
		w, f := m.add(pid, kind, obj)
		return e, n == w && e == f
	case what < 14:
		n, e := x.Dup(pid, slot)
		w, f := m.dup(pid, slot)
		return e, n == w && e == f
	case what < 20:
		to := r.IntN(8) - 1
		e := x.Dup2(pid, slot, to)
		return e, e == m.dup2(pid, slot, to)
	case what < 29:
		off := r.IntN(36) - 2
		e := x.Seek(pid, slot, off)
		return e, e == m.seek(pid, slot, off)
	case what < 36:
		e := x.Close(pid, slot)
		return e, e == m.close(pid, slot)
	case what < 39:
		child := r.IntN(8)
		e := x.Fork(pid, child)
		return e, e == m.fork(pid, child)
	case what < 40:
		return api.OK, x.Drop(pid) == m.drop(pid)
	}
	kind, obj := r.IntN(6), r.IntN(5)
	return api.OK, x.Refs(kind, obj) == m.refs(kind, obj)
}

// got is what Get tells of all places, one behind the other.
func got(x *Table) []desc.Entry {
	var l []desc.Entry
	for pid := -1; pid <= 8; pid++ {
		for slot := -1; slot <= 7; slot++ {
			if e, err := x.Get(pid, slot); err == api.OK {
				l = append(l, e)
			}
		}
	}
	return l
}

func TestManySteps(t *testing.T) { // 25.1 to 25.6, R4, R6: held against the plain model, over many calls
	for seed := range uint64(4) {
		r := rand.New(rand.NewPCG(seed, 25))
		x, m := New(), plain{slots: map[[2]int]int{}, opens: map[int]Open{}}
		told := map[api.Errno]int{}
		for i := range 20000 {
			e, same := step(x, m, r)
			o, s := m.lists()
			if !same || !slices.Equal(x.Opens(), o) || !slices.Equal(x.Slots(), s) || !slices.Equal(got(x), entries(o, s)) {
				t.Fatalf("step %d differs: %v, %v, not %v, %v", i, x.Opens(), x.Slots(), o, s)
			}
			told[e]++
			if r.IntN(100) == 0 {
				x = loaded(t, x.Opens(), x.Slots())
			}
		}
		for _, e := range []api.Errno{api.OK, api.ErrArg, api.ErrFull, api.ErrNone, api.ErrState} {
			if told[e] < 100 {
				t.Errorf("too little was asked: %v %d times", e, told[e])
			}
		}
	}
}

// right tells whether Load takes lists, by the chapter's words.
func right(o []Open, s []Slot) bool {
	for i, x := range o {
		same := func(y Open) bool { return y.ID == x.ID }
		if x.ID < 0 || x.ID > 35 || !isObject(x.Kind, x.Obj) || x.Off < 0 || x.Off > 32 || x.Off > 0 && x.Kind != 2 || slices.ContainsFunc(o[:i], same) {
			return false
		}
		if !slices.ContainsFunc(s, func(y Slot) bool { return y.Open == x.ID }) {
			return false
		}
	}
	for i, x := range s {
		same := func(y Slot) bool { return y.PID == x.PID && y.Slot == x.Slot }
		if x.PID < 1 || x.PID > 6 || x.Slot < 0 || x.Slot > 5 || slices.ContainsFunc(s[:i], same) {
			return false
		}
		if !slices.ContainsFunc(o, func(y Open) bool { return y.ID == x.Open }) {
			return false
		}
	}
	return true
}

func TestManyLoads(t *testing.T) { // 25.3: held against the chapter's words, over many lists, most of which are nearly right
	r := rand.New(rand.NewPCG(3, 25))
	loads := map[bool]int{}
	for range 60000 {
		var o []Open
		var s []Slot
		for id := range r.IntN(3) {
			o = append(o, Open{id + r.IntN(2), r.IntN(4) + 1, r.IntN(2), r.IntN(8) / 7})
		}
		for range r.IntN(4) {
			s = append(s, Slot{r.IntN(9) / 4 * 3, r.IntN(13) / 2, r.IntN(3)})
		}
		x, e := Load(o, s)
		want := right(o, s)
		loads[want]++
		if want != (e == api.OK) || want != (x != nil) || !want && e != api.ErrForm {
			t.Fatalf("Load(%v, %v): %v, %v", o, s, x, e)
		}
		if !want {
			continue
		}
		slices.SortFunc(o, func(a, b Open) int { return a.ID - b.ID })
		slices.SortFunc(s, func(a, b Slot) int { return (a.PID-b.PID)*6 + a.Slot - b.Slot })
		if !slices.Equal(x.Opens(), o) || !slices.Equal(x.Slots(), s) || !slices.Equal(got(x), entries(o, s)) {
			t.Fatalf("loaded: %v, %v, not %v, %v", x.Opens(), x.Slots(), o, s)
		}
	}
	if loads[true] < 3000 || loads[false] < 3000 {
		t.Errorf("too little was loaded: %v", loads)
	}
}
