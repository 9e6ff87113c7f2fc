package opens

import (
	"math"
	"slices"
	"testing"

	"imago/api"
	"imago/desc"
)

// far are numbers that are none of anything.
var far = []int{math.MinInt, -1, 36, 1 << 32, math.MaxInt}

// noProcs are numbers that are no process.
var noProcs = append([]int{0, 7}, far...)

// noSlots are numbers that are no slot.
var noSlots = append([]int{6, 7}, far...)

// kinds are how many objects each kind has, and how far a place may be.
var kinds = []struct{ kind, objects, far int }{{api.Console, 1, 0}, {api.File, 4, 32}, {api.Reader, 3, 0}, {api.Writer, 3, 0}}

func is(t *testing.T, e, want api.Errno) {
	t.Helper()
	if e != want {
		t.Errorf("%v, not %v", e, want)
	}
}

func adds(t *testing.T, x *Table, pid, kind, obj, want int) {
	t.Helper()
	if slot, e := x.Add(pid, kind, obj); slot != want || e != api.OK {
		t.Fatalf("Add(%d, %d, %d): %d, %v, not %d", pid, kind, obj, slot, e, want)
	}
}

func dups(t *testing.T, x *Table, pid, slot, want int) {
	t.Helper()
	if to, e := x.Dup(pid, slot); to != want || e != api.OK {
		t.Fatalf("Dup(%d, %d): %d, %v, not %d", pid, slot, to, e, want)
	}
}

// drops wants that so many descriptors of a process are gone.
func drops(t *testing.T, x *Table, pid, want int) {
	t.Helper()
	if n := x.Drop(pid); n != want {
		t.Errorf("Drop(%d): %d, not %d", pid, n, want)
	}
}

// noAdd wants that Add tells an error, and no slot.
func noAdd(t *testing.T, x *Table, pid, kind, obj int, want api.Errno) {
	t.Helper()
	if slot, e := x.Add(pid, kind, obj); slot != 0 || e != want {
		t.Errorf("Add(%d, %d, %d): %d, %v, not %v", pid, kind, obj, slot, e, want)
	}
}

// noDup wants that Dup tells an error, and no slot.
func noDup(t *testing.T, x *Table, pid, slot int, want api.Errno) {
	t.Helper()
	if to, e := x.Dup(pid, slot); to != 0 || e != want {
		t.Errorf("Dup(%d, %d): %d, %v, not %v", pid, slot, to, e, want)
	}
}

// none wants that no descriptor stands there, whatever else is asked for.
func none(t *testing.T, x *Table, pid, slot int) {
	t.Helper()
	if e, err := x.Get(pid, slot); e != (desc.Entry{}) || err != api.ErrNone {
		t.Errorf("Get(%d, %d): %v, %v", pid, slot, e, err)
	}
	for _, n := range []int{math.MinInt, -1, 0, 1, 5, 6, 32, 33, math.MaxInt} {
		is(t, x.Seek(pid, slot, n), api.ErrNone)
		is(t, x.Dup2(pid, slot, n), api.ErrNone)
	}
	is(t, x.Dup2(pid, slot, slot), api.ErrNone)
	noDup(t, x, pid, slot, api.ErrNone)
	is(t, x.Close(pid, slot), api.ErrNone)
}

// entries are the descriptors that objects and slots make.
func entries(o []Open, s []Slot) []desc.Entry {
	var l []desc.Entry
	for _, x := range s {
		for _, y := range o {
			if y.ID == x.Open {
				l = append(l, desc.Entry{PID: x.PID, Slot: x.Slot, Kind: y.Kind, Obj: y.Obj, Off: y.Off})
			}
		}
	}
	return l
}

// has wants just these objects and slots, by all calls that tell of them.
func has(t *testing.T, x *Table, o []Open, s []Slot) {
	t.Helper()
	if l := x.Opens(); !slices.Equal(l, o) {
		t.Fatalf("Opens: %v, not %v", l, o)
	}
	if l := x.Slots(); !slices.Equal(l, s) {
		t.Fatalf("Slots: %v, not %v", l, s)
	}
	want := entries(o, s)
	for pid := -1; pid <= 8; pid++ {
		for slot := -1; slot <= 7; slot++ {
			i := slices.IndexFunc(want, func(e desc.Entry) bool { return e.PID == pid && e.Slot == slot })
			if i < 0 {
				none(t, x, pid, slot)
			} else if e, err := x.Get(pid, slot); e != want[i] || err != api.OK {
				t.Errorf("Get(%d, %d): %v, %v, not %v", pid, slot, e, err, want[i])
			}
		}
	}
	for kind := -1; kind <= 5; kind++ {
		for obj := -1; obj <= 4; obj++ {
			n := 0
			for _, e := range want {
				if e.Kind == kind && e.Obj == obj {
					n++
				}
			}
			if refs := x.Refs(kind, obj); refs != n {
				t.Errorf("Refs(%d, %d): %d, not %d", kind, obj, refs, n)
			}
		}
	}
}

// loaded is the table of right lists.
func loaded(t *testing.T, o []Open, s []Slot) *Table {
	t.Helper()
	x, e := Load(o, s)
	if x == nil || e != api.OK {
		t.Fatalf("Load(%v, %v): %v, %v", o, s, x, e)
	}
	return x
}

func TestNew(t *testing.T) { // 25.1: an empty table; tables of two calls are apart
	x, y := New(), New()
	if x == nil || y == nil {
		t.Fatal("New: nothing")
	}
	has(t, x, nil, nil)
	adds(t, x, 1, api.File, 2, 0)
	has(t, y, nil, nil)
	has(t, New(), nil, nil)
	has(t, x, []Open{{0, api.File, 2, 0}}, []Slot{{1, 0, 0}})
}

func TestExample(t *testing.T) { // the chapter's example
	x := New()
	adds(t, x, 1, api.File, 2, 0)
	is(t, x.Seek(1, 0, 5), api.OK)
	dups(t, x, 1, 0, 1)
	has(t, x, []Open{{0, api.File, 2, 5}}, []Slot{{1, 0, 0}, {1, 1, 0}})
	is(t, x.Seek(1, 1, 9), api.OK)
	has(t, x, []Open{{0, api.File, 2, 9}}, []Slot{{1, 0, 0}, {1, 1, 0}})
}

func TestAdd(t *testing.T) { // 25.1: in the lowest free slot, with an object of its own, at 0, of all kinds and Objs
	for pid := 1; pid <= 6; pid++ {
		for _, k := range kinds {
			for obj := range k.objects {
				x := New()
				var o []Open
				var s []Slot
				for slot := range 6 {
					adds(t, x, pid, k.kind, obj, slot)
					o, s = append(o, Open{slot, k.kind, obj, 0}), append(s, Slot{pid, slot, slot})
				}
				has(t, x, o, s)
				noAdd(t, x, pid, k.kind, obj, api.ErrFull)
				noAdd(t, x, pid, api.Console, 0, api.ErrFull)
				has(t, x, o, s)
			}
		}
	}
}

func TestAddAll(t *testing.T) { // 25.1: as many objects as slots, whichever process comes first; an ID that is none again is had again
	x := New()
	var o []Open
	s := make([]Slot, 36)
	for id := range 36 {
		pid, slot := 6-id%6, id/6
		adds(t, x, pid, api.File, pid%4, slot)
		o = append(o, Open{id, api.File, pid % 4, 0})
		s[(pid-1)*6+slot] = Slot{pid, slot, id}
	}
	has(t, x, o, s)
	for pid := 1; pid <= 6; pid++ {
		noAdd(t, x, pid, api.Console, 0, api.ErrFull)
	}
	has(t, x, o, s)
	for id := range 36 {
		pid, slot := 6-id%6, id/6
		is(t, x.Close(pid, slot), api.OK)
		noAdd(t, x, pid%6+1, api.Console, 0, api.ErrFull)
		adds(t, x, pid, api.Console, 0, slot)
		o[id] = Open{id, api.Console, 0, 0}
		has(t, x, o, s)
	}
}

func TestAddToFreed(t *testing.T) { // 25.1: the lowest free slot, and the lowest ID that is none, each by itself; nothing of what was there is left
	x := New()
	for slot := range 6 {
		adds(t, x, 2, api.File, 1, slot)
		is(t, x.Seek(2, slot, slot+20), api.OK)
	}
	for _, slot := range []int{4, 1, 5} {
		is(t, x.Close(2, slot), api.OK)
	}
	adds(t, x, 3, api.Console, 0, 0)
	adds(t, x, 2, api.Reader, 2, 1)
	adds(t, x, 3, api.File, 0, 1)
	adds(t, x, 3, api.File, 1, 2)
	adds(t, x, 2, api.File, 3, 4)
	has(t, x, []Open{{0, api.File, 1, 20}, {1, api.Console, 0, 0}, {2, api.File, 1, 22}, {3, api.File, 1, 23}, {4, api.Reader, 2, 0}, {5, api.File, 0, 0}, {6, api.File, 1, 0}, {7, api.File, 3, 0}},
		[]Slot{{2, 0, 0}, {2, 1, 4}, {2, 2, 2}, {2, 3, 3}, {2, 4, 7}, {3, 0, 1}, {3, 1, 5}, {3, 2, 6}})
}

func TestIDs(t *testing.T) { // 25.1, 25.5: an ID is none as soon as no slot names its object, by Close, Dup2 or Drop, and not before
	free := []func(x *Table){
		func(x *Table) { x.Close(1, 0) },
		func(x *Table) { x.Dup2(1, 1, 0) },
		func(x *Table) { x.Drop(1) },
	}
	for i, f := range free {
		x := New()
		adds(t, x, 1, api.File, 2, 0)
		adds(t, x, 1, api.Console, 0, 1)
		is(t, x.Fork(1, 2), api.OK)
		f(x)
		adds(t, x, 4, api.Writer, 0, 0)
		if l := x.Slots(); l[len(l)-1] != (Slot{4, 0, 2}) {
			t.Errorf("%d: %v", i, l)
		}
		is(t, x.Close(2, 0), api.OK)
		if l := x.Opens(); len(l) != 2 || l[0].ID != 1 || l[1].ID != 2 {
			t.Errorf("%d: %v", i, l)
		}
		adds(t, x, 5, api.Reader, 1, 0)
		if l := x.Slots(); l[len(l)-1] != (Slot{5, 0, 0}) {
			t.Errorf("%d: %v", i, l)
		}
		if l := x.Opens(); !slices.Equal(l, []Open{{0, api.Reader, 1, 0}, {1, api.Console, 0, 0}, {2, api.Writer, 0, 0}}) {
			t.Errorf("%d: %v", i, l)
		}
	}
}

// wrongAdds wants that Add tells what is no descriptor.
func wrongAdds(t *testing.T, x *Table) {
	t.Helper()
	for _, pid := range noProcs {
		for _, k := range kinds {
			noAdd(t, x, pid, k.kind, 0, api.ErrArg)
		}
	}
	for pid := 1; pid <= 6; pid++ {
		for _, kind := range append([]int{0, 5}, far...) {
			noAdd(t, x, pid, kind, 0, api.ErrArg)
			noAdd(t, x, pid, kind, 1, api.ErrArg)
		}
		for _, k := range kinds {
			for _, obj := range append([]int{k.objects, k.objects + 1}, far...) {
				noAdd(t, x, pid, k.kind, obj, api.ErrArg)
			}
		}
	}
}

// all are a full table's objects and slots: slots that are next to each other share some of them.
func all() ([]Open, []Slot) {
	var o []Open
	var s []Slot
	for id := range 12 {
		k := kinds[id%4]
		o = append(o, Open{id * 3, k.kind, id % k.objects, (id * 3) % (k.far + 1)})
	}
	for i := range 36 {
		s = append(s, Slot{i/6 + 1, i % 6, i / 3 * 3})
	}
	return o, s
}

func TestAddWrong(t *testing.T) { // 25.1, R4: ErrArg, ahead of ErrFull; nothing changes
	x := New()
	wrongAdds(t, x)
	has(t, x, nil, nil)
	o, s := all()
	x = loaded(t, o, s)
	wrongAdds(t, x)
	for pid := 1; pid <= 6; pid++ {
		noAdd(t, x, pid, api.File, 3, api.ErrFull)
	}
	has(t, x, o, s)
}

func TestGet(t *testing.T) { // 25.1, R4: ErrNone, if none stands there, whatever the numbers are
	o, s := []Open{{7, api.Writer, 2, 0}, {35, api.File, 3, 32}}, []Slot{{1, 0, 35}, {6, 5, 7}}
	x := loaded(t, o, s)
	for range 2 {
		has(t, x, o, s)
		for _, pid := range append([]int{1, 6}, noProcs...) {
			for _, slot := range noSlots {
				none(t, x, pid, slot)
			}
		}
		for _, pid := range noProcs {
			none(t, x, pid, 0)
			none(t, x, pid, 5)
		}
	}
	has(t, x, o, s)
}

func TestSeek(t *testing.T) { // 25.1: a File's place is from 0 to MaxFile, all others' 0; no other object moves
	x := New()
	for slot, k := range kinds {
		adds(t, x, 4, k.kind, 0, slot)
		adds(t, x, 5, k.kind, 0, slot)
	}
	o, s := x.Opens(), x.Slots()
	for _, at := range s {
		most := kinds[at.Slot].far
		for off := range most + 1 {
			is(t, x.Seek(at.PID, at.Slot, off), api.OK)
			o[at.Open].Off = off
			has(t, x, o, s)
		}
		for _, off := range append([]int{most + 1, most + 2, 33, -32}, far...) {
			is(t, x.Seek(at.PID, at.Slot, off), api.ErrArg)
		}
		has(t, x, o, s)
	}
	is(t, x.Seek(5, 1, 0), api.OK)
	o[3].Off = 0
	has(t, x, o, s)
}

func TestOnePlace(t *testing.T) { // 25.1, 25.2, 25.4: whoever names one object has one place, whichever call made it so; one of the same file that was added has its own
	x := New()
	adds(t, x, 1, api.File, 2, 0)
	adds(t, x, 1, api.File, 2, 1)
	dups(t, x, 1, 0, 2)
	is(t, x.Dup2(1, 2, 4), api.OK)
	is(t, x.Fork(1, 3), api.OK)
	is(t, x.Fork(3, 2), api.OK)
	o := []Open{{0, api.File, 2, 0}, {1, api.File, 2, 0}}
	var s []Slot
	for pid := 1; pid <= 3; pid++ {
		s = append(s, Slot{pid, 0, 0}, Slot{pid, 1, 1}, Slot{pid, 2, 0}, Slot{pid, 4, 0})
	}
	has(t, x, o, s)
	for i, at := range s {
		is(t, x.Seek(at.PID, at.Slot, i+3), api.OK)
		o[at.Open].Off = i + 3
		has(t, x, o, s)
	}
	y := loaded(t, o, s)
	for i, at := range s {
		is(t, y.Seek(at.PID, at.Slot, 32-i), api.OK)
		o[at.Open].Off = 32 - i
		has(t, y, o, s)
	}
}

func TestDup(t *testing.T) { // 25.2: the lowest free slot names the same object
	x := New()
	adds(t, x, 1, api.Console, 0, 0)
	adds(t, x, 1, api.File, 3, 1)
	adds(t, x, 1, api.Reader, 1, 2)
	adds(t, x, 2, api.Writer, 2, 0)
	is(t, x.Seek(1, 1, 32), api.OK)
	is(t, x.Close(1, 0), api.OK)
	dups(t, x, 1, 1, 0)
	dups(t, x, 1, 0, 3)
	dups(t, x, 1, 2, 4)
	o := []Open{{1, api.File, 3, 32}, {2, api.Reader, 1, 0}, {3, api.Writer, 2, 0}}
	s := []Slot{{1, 0, 1}, {1, 1, 1}, {1, 2, 2}, {1, 3, 1}, {1, 4, 2}, {2, 0, 3}}
	has(t, x, o, s)
	is(t, x.Close(1, 1), api.OK)
	dups(t, x, 1, 4, 1)
	s[1].Open = 2
	has(t, x, o, s)
	dups(t, x, 2, 0, 1)
	has(t, x, o, append(s, Slot{2, 1, 3}))
}

func TestDupWrong(t *testing.T) { // 25.2, R4: ErrNone, ahead of ErrFull; nothing changes
	o, s := all()
	x := loaded(t, o, s)
	for pid := 1; pid <= 6; pid++ {
		for slot := range 6 {
			noDup(t, x, pid, slot, api.ErrFull)
		}
		for _, slot := range noSlots {
			noDup(t, x, pid, slot, api.ErrNone)
		}
	}
	for _, pid := range noProcs {
		noDup(t, x, pid, 0, api.ErrNone)
	}
	has(t, x, o, s)
	is(t, x.Close(1, 5), api.OK)
	noDup(t, x, 1, 5, api.ErrNone)
	dups(t, x, 1, 4, 5)
	has(t, x, o, s)
}

func TestDup2(t *testing.T) { // 25.2, 25.5: to names the same object, no longer what it named; if to is slot, nothing changes
	for slot := range 6 {
		for to := range 6 {
			var o []Open
			var s []Slot
			for i := range 5 {
				at := (slot + i) % 6 // one slot is free, another one for each
				o, s = append(o, Open{i, api.File, 1, i + 10}), append(s, Slot{3, at, i})
			}
			x := loaded(t, o, append(s, Slot{4, 0, 0}))
			is(t, x.Dup2(3, slot, to), api.OK)
			if i := slices.IndexFunc(s, func(x Slot) bool { return x.Slot == to }); i < 0 {
				s = append(s, Slot{3, to, 0})
			} else if i > 0 {
				s[i].Open = 0
				o = slices.Delete(o, i, i+1)
			}
			slices.SortFunc(s, func(a, b Slot) int { return a.Slot - b.Slot })
			has(t, x, o, append(s, Slot{4, 0, 0}))
		}
	}
}

func TestDup2Shared(t *testing.T) { // 25.2, 25.5: what to named is there still, if another slot names it
	x := New()
	adds(t, x, 1, api.File, 0, 0)
	adds(t, x, 1, api.Writer, 1, 1)
	dups(t, x, 1, 1, 2)
	is(t, x.Dup2(1, 0, 1), api.OK)
	has(t, x, []Open{{0, api.File, 0, 0}, {1, api.Writer, 1, 0}}, []Slot{{1, 0, 0}, {1, 1, 0}, {1, 2, 1}})
	is(t, x.Dup2(1, 1, 2), api.OK)
	has(t, x, []Open{{0, api.File, 0, 0}}, []Slot{{1, 0, 0}, {1, 1, 0}, {1, 2, 0}})
	is(t, x.Dup2(1, 2, 0), api.OK)
	is(t, x.Dup2(1, 2, 2), api.OK)
	has(t, x, []Open{{0, api.File, 0, 0}}, []Slot{{1, 0, 0}, {1, 1, 0}, {1, 2, 0}})
}

func TestDup2Wrong(t *testing.T) { // 25.2, R4: ErrNone, ahead of ErrArg; nothing changes
	o, s := []Open{{0, api.File, 3, 9}, {1, api.Console, 0, 0}}, []Slot{{1, 0, 0}, {1, 5, 1}, {6, 0, 0}}
	x := loaded(t, o, s)
	for _, to := range noSlots {
		for _, at := range s {
			is(t, x.Dup2(at.PID, at.Slot, to), api.ErrArg)
		}
		is(t, x.Dup2(1, 1, to), api.ErrNone)
		is(t, x.Dup2(2, 0, to), api.ErrNone)
	}
	for to := range 6 {
		for _, slot := range append([]int{1, 2, 3, 4}, noSlots...) {
			is(t, x.Dup2(1, slot, to), api.ErrNone)
		}
		for _, pid := range append([]int{2, 5}, noProcs...) {
			is(t, x.Dup2(pid, 0, to), api.ErrNone)
		}
	}
	has(t, x, o, s)
}

func TestClose(t *testing.T) { // 25.1, 25.5: it is gone, it alone; its object is gone with the last slot that names it
	for gone := range 6 {
		x := New()
		var o []Open
		var s []Slot
		for slot := range 6 {
			adds(t, x, 1, api.Reader, 2, slot)
			o, s = append(o, Open{slot, api.Reader, 2, 0}), append(s, Slot{1, slot, slot})
		}
		is(t, x.Fork(1, 2), api.OK)
		for slot := range 6 {
			s = append(s, Slot{2, slot, slot})
		}
		is(t, x.Close(2, gone), api.OK)
		s = slices.Delete(s, 6+gone, 7+gone)
		has(t, x, o, s)
		is(t, x.Close(2, gone), api.ErrNone)
		has(t, x, o, s)
		is(t, x.Close(1, gone), api.OK)
		has(t, x, slices.Delete(o, gone, gone+1), slices.Delete(s, gone, gone+1))
	}
}

func TestFork(t *testing.T) { // 25.2, 25.4: child's slots name the objects that parent's name, in the same slots
	for parent := 1; parent <= 6; parent++ {
		for child := 1; child <= 6; child++ {
			if parent == child {
				continue
			}
			o := []Open{{2, api.File, 3, 7}, {5, api.Console, 0, 0}}
			of := func(pid int) []Slot { return []Slot{{pid, 0, 5}, {pid, 2, 2}, {pid, 5, 2}} }
			both := append(of(min(parent, child)), of(max(parent, child))...)
			x := loaded(t, o, of(parent))
			is(t, x.Fork(parent, child), api.OK)
			has(t, x, o, both)
			is(t, x.Seek(child, 2, 32), api.OK)
			o[0].Off = 32
			has(t, x, o, both)
			is(t, x.Seek(parent, 5, 1), api.OK)
			o[0].Off = 1
			has(t, x, o, both)
			is(t, x.Fork(parent, child), api.ErrState)
			is(t, x.Fork(child, parent), api.ErrState)
			is(t, x.Close(parent, 0), api.OK)
			adds(t, x, child, api.Reader, 0, 1)
			drops(t, x, parent, 2)
			has(t, x, []Open{{0, api.Reader, 0, 0}, o[0], o[1]}, slices.Insert(of(child), 1, Slot{child, 1, 0}))
		}
	}
}

// wrongForks wants that Fork tells what is no process's number, or one twice.
func wrongForks(t *testing.T, x *Table) {
	t.Helper()
	for pid := 1; pid <= 6; pid++ {
		is(t, x.Fork(pid, pid), api.ErrArg)
		for _, wrong := range noProcs {
			is(t, x.Fork(pid, wrong), api.ErrArg)
			is(t, x.Fork(wrong, pid), api.ErrArg)
			is(t, x.Fork(wrong, wrong), api.ErrArg)
		}
	}
}

func TestForkWrong(t *testing.T) { // 25.2, R4: ErrArg, ahead of ErrState; ErrState, whichever slot child has; nothing changes
	x := New()
	wrongForks(t, x)
	has(t, x, nil, nil)
	for slot := range 6 {
		o, s := []Open{{1, api.Console, 0, 0}}, []Slot{{2, slot, 1}}
		x := loaded(t, o, s)
		wrongForks(t, x)
		is(t, x.Fork(1, 2), api.ErrState)
		is(t, x.Fork(3, 2), api.ErrState)
		has(t, x, o, s)
		is(t, x.Close(2, slot), api.OK)
		is(t, x.Fork(1, 2), api.OK)
		has(t, x, nil, nil)
	}
}

func TestDrop(t *testing.T) { // 25.1, 25.5: all of the process are gone: how many slots; objects that others name are there still
	for pid := 1; pid <= 6; pid++ {
		x := New()
		var o []Open
		var s []Slot
		id := 0
		for other := 1; other <= 6; other++ {
			for slot := range other {
				adds(t, x, other, api.File, slot%4, slot)
				if other != pid {
					o, s = append(o, Open{id, api.File, slot % 4, 0}), append(s, Slot{other, slot, id})
				}
				id++
			}
		}
		for _, n := range noProcs {
			drops(t, x, n, 0)
		}
		drops(t, x, pid, pid)
		has(t, x, o, s)
		drops(t, x, pid, 0)
		has(t, x, o, s)
		adds(t, x, pid, api.Console, 0, 0)
	}
	o := []Open{{3, api.File, 1, 9}, {4, api.Console, 0, 0}}
	x := loaded(t, o, []Slot{{3, 1, 3}, {3, 3, 3}, {3, 5, 4}, {4, 1, 3}})
	drops(t, x, 3, 3)
	has(t, x, o[:1], []Slot{{4, 1, 3}})
	drops(t, x, 4, 1)
	has(t, x, nil, nil)
}

func TestRefs(t *testing.T) { // 25.2: how many slots name an object of that kind and Obj, the same one or another; of other numbers none
	x := New()
	adds(t, x, 1, api.Reader, 1, 0)
	adds(t, x, 1, api.Writer, 1, 1)
	adds(t, x, 1, api.File, 1, 2)
	adds(t, x, 2, api.Reader, 1, 0)
	adds(t, x, 2, api.Reader, 0, 1)
	dups(t, x, 2, 0, 2)
	is(t, x.Dup2(2, 1, 5), api.OK)
	for _, c := range []struct{ kind, obj, want int }{
		{api.Reader, 1, 3}, {api.Reader, 0, 2}, {api.Reader, 2, 0}, {api.Writer, 1, 1}, {api.Writer, 0, 0}, {api.File, 1, 1}, {api.Console, 0, 0},
	} {
		if n := x.Refs(c.kind, c.obj); n != c.want {
			t.Errorf("Refs(%d, %d): %d, not %d", c.kind, c.obj, n, c.want)
		}
	}
	is(t, x.Fork(2, 3), api.OK)
	if n := x.Refs(api.Reader, 1); n != 5 {
		t.Errorf("Refs: %d", n)
	}
	for _, n := range far {
		if x.Refs(n, 1) != 0 || x.Refs(api.Reader, n) != 0 {
			t.Errorf("Refs of %d", n)
		}
	}
}

func TestLoad(t *testing.T) { // 25.3: these, in whichever order they are told
	has(t, loaded(t, nil, []Slot{}), nil, nil)
	has(t, loaded(t, []Open{}, nil), nil, nil)
	o, s := all()
	has(t, loaded(t, o, s), o, s)
	backO, backS := slices.Clone(o), slices.Clone(s)
	slices.Reverse(backO)
	slices.Reverse(backS)
	has(t, loaded(t, backO, backS), o, s)
	o, s = nil, nil
	for i := range 36 {
		k := kinds[i%4]
		o, s = append(o, Open{i, k.kind, k.objects - 1, k.far}), append(s, Slot{i/6 + 1, i % 6, 35 - i})
	}
	has(t, loaded(t, o, s), o, s)
	has(t, loaded(t, o[:1], s[35:]), o[:1], s[35:])
	has(t, loaded(t, o[35:], s[:1]), o[35:], s[:1])
	x := loaded(t, []Open{{35, api.File, 1, 8}, {0, api.Reader, 0, 0}}, []Slot{{2, 1, 35}, {1, 5, 0}})
	adds(t, x, 2, api.File, 1, 0)
	dups(t, x, 2, 1, 2)
	has(t, x, []Open{{0, api.Reader, 0, 0}, {1, api.File, 1, 0}, {35, api.File, 1, 8}}, []Slot{{1, 5, 0}, {2, 0, 1}, {2, 1, 35}, {2, 2, 35}})
}

// noLoad wants that Load tells ErrForm, and no table.
func noLoad(t *testing.T, o []Open, s []Slot) {
	t.Helper()
	if x, e := Load(o, s); x != nil || e != api.ErrForm {
		t.Errorf("Load(%v, %v): %v, %v", o[:min(len(o), 5)], s[:min(len(s), 5)], x, e)
	}
}

func TestLoadWrong(t *testing.T) { // 25.3, R4: ErrForm, if a PID, a Slot, an ID, Kind, Obj or Off is none
	o, s := []Open{{3, api.File, 1, 8}}, []Slot{{2, 1, 3}}
	slots := []Slot{{0, 1, 3}, {7, 1, 3}, {2, 6, 3}, {2, 7, 3}}
	objects := []Open{{3, 0, 1, 8}, {3, 5, 0, 0}, {3, api.File, 4, 8}, {3, api.File, 1, 33}, {3, api.Console, 1, 0}, {3, api.Console, 0, 1},
		{3, api.Reader, 3, 0}, {3, api.Reader, 0, 1}, {3, api.Writer, 3, 0}, {3, api.Writer, 0, 1}, {}}
	for _, n := range far {
		slots = append(slots, Slot{n, 1, 3}, Slot{2, n, 3})
		objects = append(objects, Open{3, n, 1, 8}, Open{3, api.File, n, 8}, Open{3, api.File, 1, n})
		noLoad(t, []Open{{n, api.File, 1, 8}}, []Slot{{2, 1, n}})
		noLoad(t, []Open{{n, api.File, 1, 8}, o[0]}, []Slot{{2, 1, n}, {2, 2, 3}})
	}
	for _, x := range slots {
		noLoad(t, o, []Slot{x})
		noLoad(t, o, []Slot{x, s[0]})
		noLoad(t, o, []Slot{s[0], x})
	}
	for _, x := range objects {
		x.ID = 4
		noLoad(t, []Open{x}, []Slot{{2, 1, 4}})
		noLoad(t, []Open{x, o[0]}, []Slot{{2, 1, 4}, {2, 2, 3}})
		noLoad(t, []Open{o[0], x}, []Slot{{2, 1, 4}, {2, 2, 3}})
	}
	has(t, loaded(t, o, s), o, s)
}

func TestLoadUnlike(t *testing.T) { // 25.3: ErrForm, if an ID or a process's slot stands twice, the same or another
	o, s := []Open{{3, api.File, 1, 8}, {5, api.File, 1, 8}}, []Slot{{2, 1, 3}, {3, 1, 5}}
	has(t, loaded(t, o, s), o, s)
	for _, x := range []Open{{3, api.File, 1, 8}, {5, api.File, 1, 8}, {5, api.Console, 0, 0}, {3, api.File, 1, 9}} {
		noLoad(t, []Open{o[0], o[1], x}, s)
		noLoad(t, []Open{x, o[0], o[1]}, append(s, Slot{4, 4, 3}, Slot{4, 5, 5}))
	}
	for _, x := range []Slot{{2, 1, 3}, {2, 1, 5}, {3, 1, 5}, {3, 1, 3}} {
		noLoad(t, o, []Slot{s[0], s[1], x})
		noLoad(t, o, []Slot{x, s[0], s[1]})
		noLoad(t, o, []Slot{s[0], s[1], {4, 4, 3}, {4, 5, 5}, x})
	}
	o, s = all()
	noLoad(t, append(slices.Clone(o), o[11]), s)
	noLoad(t, o, append(slices.Clone(s), s[0]))
	noLoad(t, o, append(slices.Clone(s), s[35]))
	noLoad(t, slices.Repeat(o, 20000), s)
	noLoad(t, o, slices.Repeat(s, 20000))
}

func TestLoadNames(t *testing.T) { // 25.3: ErrForm, if a slot names what is not there, or an object is named by no slot
	o, s := []Open{{0, api.Console, 0, 0}, {3, api.File, 1, 8}}, []Slot{{2, 1, 3}, {3, 1, 0}, {3, 2, 3}}
	has(t, loaded(t, o, s), o, s)
	for _, n := range append([]int{1, 2, 4, 35}, far...) {
		noLoad(t, o, append(slices.Clone(s), Slot{4, 1, n}))
		noLoad(t, o, append([]Slot{{4, 1, n}}, s...))
		noLoad(t, nil, []Slot{{4, 1, n}})
	}
	noLoad(t, nil, []Slot{{4, 1, 0}})
	noLoad(t, o, nil)
	noLoad(t, o[:1], nil)
	noLoad(t, o, s[:1])
	noLoad(t, o, s[1:2])
	noLoad(t, o[:1], s)
	noLoad(t, o[1:], s)
	noLoad(t, append(slices.Clone(o), Open{1, api.File, 1, 8}), s)
}

func TestLoadOfLists(t *testing.T) { // 25.6: the same table, which goes on by itself
	x := New()
	adds(t, x, 1, api.File, 2, 0)
	adds(t, x, 1, api.Console, 0, 1)
	adds(t, x, 1, api.Writer, 1, 2)
	is(t, x.Seek(1, 0, 30), api.OK)
	is(t, x.Fork(1, 4), api.OK)
	is(t, x.Dup2(4, 2, 1), api.OK)
	is(t, x.Close(1, 1), api.OK)
	o, s := []Open{{0, api.File, 2, 30}, {2, api.Writer, 1, 0}}, []Slot{{1, 0, 0}, {1, 2, 2}, {4, 0, 0}, {4, 1, 2}, {4, 2, 2}}
	y := loaded(t, x.Opens(), x.Slots())
	has(t, y, o, s)
	adds(t, y, 1, api.Reader, 0, 1)
	is(t, y.Seek(4, 0, 1), api.OK)
	is(t, y.Close(4, 1), api.OK)
	has(t, y, []Open{{0, api.File, 2, 1}, {1, api.Reader, 0, 0}, {2, api.Writer, 1, 0}}, []Slot{{1, 0, 0}, {1, 1, 1}, {1, 2, 2}, {4, 0, 0}, {4, 2, 2}})
	has(t, x, o, s)
	has(t, loaded(t, y.Opens(), y.Slots()), y.Opens(), y.Slots())
}

func TestMemory(t *testing.T) { // R3: what is handed in is not changed and not kept; what is answered is its caller's; spare room too
	o, s := []Open{{0, api.Console, 0, 0}, {3, api.File, 2, 30}}, []Slot{{1, 1, 3}, {4, 0, 0}, {4, 1, 3}}
	roomO, roomS := []Open{o[1], o[0], {9, 9, 9, 9}}, []Slot{s[2], s[0], s[1], {9, 9, 9}}
	x := loaded(t, roomO[:2], roomS[:3])
	if !slices.Equal(roomO, []Open{o[1], o[0], {9, 9, 9, 9}}) || !slices.Equal(roomS, []Slot{s[2], s[0], s[1], {9, 9, 9}}) {
		t.Errorf("Load changed %v, %v", roomO, roomS)
	}
	is(t, x.Seek(4, 1, 7), api.OK)
	is(t, x.Seek(4, 1, 30), api.OK)
	clear(roomO)
	clear(roomS)
	has(t, x, o, s)
	toldO, toldS, otherO, otherS := x.Opens(), x.Slots(), x.Opens(), x.Slots()
	clear(toldO[:cap(toldO)])
	clear(toldS[:cap(toldS)])
	has(t, x, o, s)
	is(t, x.Seek(4, 1, 1), api.OK)
	is(t, x.Close(4, 0), api.OK)
	is(t, x.Dup2(4, 1, 5), api.OK)
	if !slices.Equal(otherO, o) || !slices.Equal(otherS, s) {
		t.Errorf("Opens, Slots: %v, %v", otherO, otherS)
	}
}

func TestZeroTable(t *testing.T) { // a table that New did not make is empty too
	x := &Table{}
	has(t, x, nil, nil)
	is(t, x.Fork(1, 2), api.OK)
	drops(t, x, 1, 0)
	adds(t, x, 1, api.Console, 0, 0)
	has(t, x, []Open{{0, api.Console, 0, 0}}, []Slot{{1, 0, 0}})
}

func TestNilTable(t *testing.T) { // empty: Add and Fork ErrState (ErrArg first), others ErrNone; 0; R4, R6
	var x *Table
	for range 2 {
		has(t, x, nil, nil)
		wrongAdds(t, x)
		wrongForks(t, x)
		for pid := 1; pid <= 6; pid++ {
			for _, k := range kinds {
				noAdd(t, x, pid, k.kind, k.objects-1, api.ErrState)
			}
			is(t, x.Fork(pid, pid%6+1), api.ErrState)
		}
		for _, n := range append([]int{1, 2, 6}, noProcs...) {
			drops(t, x, n, 0)
			if x.Refs(n, n) != 0 || x.Refs(api.File, n) != 0 {
				t.Errorf("Refs of %d", n)
			}
		}
	}
}
