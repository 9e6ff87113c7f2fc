package desc

import (
	"math"
	"slices"
	"testing"

	"imago/api"
)

// far are numbers that are none of anything.
var far = []int{math.MinInt, -1, 33, 1 << 32, math.MaxInt}

// noProcs are numbers that are no process.
var noProcs = append([]int{0, 7}, far...)

// noSlots are numbers that are no slot.
var noSlots = append([]int{6, 7}, far...)

// kinds are how many objects each kind has, and how far a place may be.
var kinds = []struct{ kind, objects, far int }{{api.Console, 1, 0}, {api.File, 4, 32}, {api.Reader, 3, 0}, {api.Writer, 3, 0}}

func is(t *testing.T, e, want api.Errno) {
	t.Helper()
	if e != want {
		t.Errorf("%v, not %v", e, want)
	}
}

func adds(t *testing.T, x *Table, pid, kind, obj, want int) {
	t.Helper()
	if slot, e := x.Add(pid, kind, obj); slot != want || e != api.OK {
		t.Fatalf("Add(%d, %d, %d): %d, %v, not %d", pid, kind, obj, slot, e, want)
	}
}

func dups(t *testing.T, x *Table, pid, slot, want int) {
	t.Helper()
	if to, e := x.Dup(pid, slot); to != want || e != api.OK {
		t.Fatalf("Dup(%d, %d): %d, %v, not %d", pid, slot, to, e, want)
	}
}

// refuses wants that Add and Dup tell these errors, and no slot.
func refuses(t *testing.T, x *Table, pid, kind, obj int, want api.Errno) {
	t.Helper()
	if slot, e := x.Add(pid, kind, obj); slot != 0 || e != want {
		t.Errorf("Add(%d, %d, %d): %d, %v, not %v", pid, kind, obj, slot, e, want)
	}
}

func noDup(t *testing.T, x *Table, pid, slot int, want api.Errno) {
	t.Helper()
	if to, e := x.Dup(pid, slot); to != 0 || e != want {
		t.Errorf("Dup(%d, %d): %d, %v, not %v", pid, slot, to, e, want)
	}
}

// none wants that no descriptor stands there.
func none(t *testing.T, x *Table, pid, slot int) {
	t.Helper()
	if e, err := x.Get(pid, slot); e != (Entry{}) || err != api.ErrNone {
		t.Errorf("Get(%d, %d): %v, %v", pid, slot, e, err)
	}
	for _, off := range []int{math.MinInt, -1, 0, 1, 32, 33, math.MaxInt} {
		is(t, x.Seek(pid, slot, off), api.ErrNone)
	}
	noDup(t, x, pid, slot, api.ErrNone)
	is(t, x.Close(pid, slot), api.ErrNone)
}

// has wants just these descriptors, by all calls that tell of them.
func has(t *testing.T, x *Table, want ...Entry) {
	t.Helper()
	if l := x.List(); !slices.Equal(l, want) {
		t.Fatalf("List: %v, not %v", l, want)
	}
	for pid := -1; pid <= 8; pid++ {
		for slot := -1; slot <= 7; slot++ {
			i := slices.IndexFunc(want, func(e Entry) bool { return e.PID == pid && e.Slot == slot })
			if i < 0 {
				none(t, x, pid, slot)
			} else if e, err := x.Get(pid, slot); e != want[i] || err != api.OK {
				t.Errorf("Get(%d, %d): %v, %v, not %v", pid, slot, e, err, want[i])
			}
		}
	}
	for kind := -1; kind <= 5; kind++ {
		for obj := -1; obj <= 4; obj++ {
			n := 0
			for _, e := range want {
				if e.Kind == kind && e.Obj == obj {
					n++
				}
			}
			if refs := x.Refs(kind, obj); refs != n {
				t.Errorf("Refs(%d, %d): %d, not %d", kind, obj, refs, n)
			}
		}
	}
}

// loaded is the table of a right list.
func loaded(t *testing.T, l ...Entry) *Table {
	t.Helper()
	x, e := Load(l)
	if x == nil || e != api.OK {
		t.Fatalf("Load(%v): %v, %v", l, x, e)
	}
	return x
}

func TestNew(t *testing.T) { // 24.1: an empty table; tables of two calls are apart
	x, y := New(), New()
	if x == nil || y == nil {
		t.Fatal("New: nothing")
	}
	has(t, x)
	adds(t, x, 1, api.File, 2, 0)
	has(t, y)
	has(t, New())
	has(t, x, Entry{1, 0, api.File, 2, 0})
}

func TestExample(t *testing.T) { // the chapter's example
	x := New()
	adds(t, x, 1, api.File, 2, 0)
	is(t, x.Seek(1, 0, 5), api.OK)
	dups(t, x, 1, 0, 1)
	has(t, x, Entry{1, 0, api.File, 2, 5}, Entry{1, 1, api.File, 2, 5})
	is(t, x.Seek(1, 1, 9), api.OK)
	has(t, x, Entry{1, 0, api.File, 2, 5}, Entry{1, 1, api.File, 2, 9})
}

func TestRight(t *testing.T) { // 24.1: each field from its least to its greatest number, and no other
	numbers := []int{math.MinInt, math.MinInt + 1, -33, -1, 0, 1, 2, 3, 4, 5, 6, 7, 31, 32, 33, 64, 1 << 32, 1<<32 + 1, math.MaxInt}
	for _, kind := range numbers {
		objects, most := 0, 0
		for _, k := range kinds {
			if k.kind == kind {
				objects, most = k.objects, k.far
			}
		}
		for _, n := range numbers {
			for _, m := range numbers {
				right := objects > 0 && n >= 1 && n <= 6 && m >= 0 && m <= 5
				if Right(Entry{n, m, kind, 0, 0}) != right {
					t.Errorf("Right of process %d, slot %d, kind %d: %v", n, m, kind, !right)
				}
				right = n >= 0 && n < objects && m >= 0 && m <= most
				if Right(Entry{6, 5, kind, n, m}) != right {
					t.Errorf("Right of kind %d, object %d, place %d: %v", kind, n, m, !right)
				}
			}
		}
	}
	if Right(Entry{}) {
		t.Error("Right of nothing")
	}
}

func TestAdd(t *testing.T) { // 24.1: in the lowest free slot, with place 0, of all kinds and objects
	for pid := 1; pid <= 6; pid++ {
		for _, k := range kinds {
			for obj := range k.objects {
				x := New()
				var want []Entry
				for slot := range 6 {
					adds(t, x, pid, k.kind, obj, slot)
					want = append(want, Entry{pid, slot, k.kind, obj, 0})
				}
				has(t, x, want...)
				refuses(t, x, pid, k.kind, obj, api.ErrFull)
				refuses(t, x, pid, api.Console, 0, api.ErrFull)
				has(t, x, want...)
			}
		}
	}
}

func TestAddToFreed(t *testing.T) { // 24.1: the lowest slot that is free again; nothing of what stood there is left
	x := New()
	for slot := range 6 {
		adds(t, x, 2, api.File, 1, slot)
		is(t, x.Seek(2, slot, slot+20), api.OK)
	}
	adds(t, x, 3, api.Console, 0, 0)
	for _, slot := range []int{4, 1, 5} {
		is(t, x.Close(2, slot), api.OK)
	}
	adds(t, x, 2, api.Reader, 2, 1)
	adds(t, x, 2, api.File, 3, 4)
	adds(t, x, 2, api.Writer, 0, 5)
	refuses(t, x, 2, api.File, 0, api.ErrFull)
	adds(t, x, 3, api.File, 0, 1)
	has(t, x, Entry{2, 0, api.File, 1, 20}, Entry{2, 1, api.Reader, 2, 0}, Entry{2, 2, api.File, 1, 22}, Entry{2, 3, api.File, 1, 23},
		Entry{2, 4, api.File, 3, 0}, Entry{2, 5, api.Writer, 0, 0}, Entry{3, 0, api.Console, 0, 0}, Entry{3, 1, api.File, 0, 0})
}

// wrongAdds wants that Add tells what is no descriptor.
func wrongAdds(t *testing.T, x *Table) {
	t.Helper()
	for _, pid := range noProcs {
		for _, k := range kinds {
			refuses(t, x, pid, k.kind, 0, api.ErrArg)
		}
	}
	for pid := 1; pid <= 6; pid++ {
		for _, kind := range append([]int{0, 5}, far...) {
			refuses(t, x, pid, kind, 0, api.ErrArg)
			refuses(t, x, pid, kind, 1, api.ErrArg)
		}
		for _, k := range kinds {
			for _, obj := range append([]int{k.objects, k.objects + 1}, far...) {
				refuses(t, x, pid, k.kind, obj, api.ErrArg)
			}
		}
	}
}

func TestAddWrong(t *testing.T) { // 24.1, R4: ErrArg, ahead of ErrFull; nothing changes
	x := New()
	wrongAdds(t, x)
	has(t, x)
	var want []Entry
	for pid := 1; pid <= 6; pid++ {
		for slot := range 6 {
			adds(t, x, pid, api.Console, 0, slot)
			want = append(want, Entry{pid, slot, api.Console, 0, 0})
		}
	}
	wrongAdds(t, x)
	has(t, x, want...)
}

func TestGet(t *testing.T) { // 24.1, R4: ErrNone, if none stands there, whatever the numbers are
	x := loaded(t, Entry{1, 0, api.File, 3, 32}, Entry{6, 5, api.Writer, 2, 0})
	for range 2 {
		has(t, x, Entry{1, 0, api.File, 3, 32}, Entry{6, 5, api.Writer, 2, 0})
		for _, pid := range append([]int{1, 6}, noProcs...) {
			for _, slot := range noSlots {
				none(t, x, pid, slot)
			}
		}
		for _, pid := range noProcs {
			none(t, x, pid, 0)
			none(t, x, pid, 5)
		}
	}
}

func TestSeek(t *testing.T) { // 24.1, 24.3: a File's place is from 0 to MaxFile, all others' 0; no other one moves
	x := New()
	for slot, k := range kinds {
		adds(t, x, 4, k.kind, 0, slot)
		adds(t, x, 5, k.kind, 0, slot)
	}
	want := x.List()
	for i, e := range want {
		most := kinds[e.Slot].far
		for off := range most + 1 {
			is(t, x.Seek(e.PID, e.Slot, off), api.OK)
			want[i].Off = off
			has(t, x, want...)
		}
		for _, off := range append([]int{most + 1, most + 2, -32}, far...) {
			is(t, x.Seek(e.PID, e.Slot, off), api.ErrArg)
		}
		has(t, x, want...)
	}
	is(t, x.Seek(5, 1, 0), api.OK)
	want[5].Off = 0
	has(t, x, want...)
}

func TestDup(t *testing.T) { // 24.2, 24.3: one more in the lowest free slot, at the same place, with a place of its own
	x := New()
	adds(t, x, 1, api.Console, 0, 0)
	adds(t, x, 1, api.File, 3, 1)
	adds(t, x, 1, api.Reader, 1, 2)
	adds(t, x, 2, api.Writer, 2, 0)
	is(t, x.Seek(1, 1, 32), api.OK)
	is(t, x.Close(1, 0), api.OK)
	dups(t, x, 1, 1, 0)
	dups(t, x, 1, 0, 3)
	dups(t, x, 1, 2, 4)
	want := []Entry{{1, 0, api.File, 3, 32}, {1, 1, api.File, 3, 32}, {1, 2, api.Reader, 1, 0}, {1, 3, api.File, 3, 32}, {1, 4, api.Reader, 1, 0}, {2, 0, api.Writer, 2, 0}}
	has(t, x, want...)
	for i, slot := range []int{0, 1, 3} {
		is(t, x.Seek(1, slot, i), api.OK)
		want[slot].Off = i
		has(t, x, want...)
	}
	is(t, x.Close(1, 1), api.OK)
	dups(t, x, 1, 3, 1)
	want[1].Off = 2
	has(t, x, want...)
	dups(t, x, 2, 0, 1)
	has(t, x, append(want, Entry{2, 1, api.Writer, 2, 0})...)
}

func TestDupWrong(t *testing.T) { // 24.2, R4: ErrNone, ahead of ErrFull; nothing changes
	x := New()
	var want []Entry
	for slot := range 6 {
		adds(t, x, 1, api.File, 0, slot)
		want = append(want, Entry{1, slot, api.File, 0, 0})
	}
	for slot := range 6 {
		noDup(t, x, 1, slot, api.ErrFull)
	}
	for _, slot := range noSlots {
		noDup(t, x, 1, slot, api.ErrNone)
	}
	has(t, x, want...)
	is(t, x.Close(1, 5), api.OK)
	noDup(t, x, 1, 5, api.ErrNone)
	dups(t, x, 1, 2, 5)
	has(t, x, want...)
}

func TestClose(t *testing.T) { // 24.1: it is gone, it alone
	for gone := range 6 {
		x := New()
		var want []Entry
		for slot := range 6 {
			for _, pid := range []int{1, 2} {
				adds(t, x, pid, api.Reader, 2, slot)
				want = append(want, Entry{pid, slot, api.Reader, 2, 0})
			}
		}
		slices.SortFunc(want, func(a, b Entry) int { return (a.PID-b.PID)*6 + a.Slot - b.Slot })
		is(t, x.Close(2, gone), api.OK)
		want = slices.Delete(want, 6+gone, 7+gone)
		has(t, x, want...)
		is(t, x.Close(2, gone), api.ErrNone)
		has(t, x, want...)
	}
}

func TestFork(t *testing.T) { // 24.2, 24.3: child has those that parent has, in the same slots, each with a place of its own
	for parent := 1; parent <= 6; parent++ {
		for child := 1; child <= 6; child++ {
			if parent == child {
				continue
			}
			entries := func(pid, off int) []Entry {
				return []Entry{{pid, 0, api.Console, 0, 0}, {pid, 2, api.File, 3, off}, {pid, 5, api.Writer, 1, 0}}
			}
			sorted := func(a, b []Entry) []Entry {
				if a[0].PID > b[0].PID {
					a, b = b, a
				}
				return append(a, b...)
			}
			x := loaded(t, entries(parent, 7)...)
			is(t, x.Fork(parent, child), api.OK)
			has(t, x, sorted(entries(parent, 7), entries(child, 7))...)
			is(t, x.Seek(child, 2, 32), api.OK)
			has(t, x, sorted(entries(parent, 7), entries(child, 32))...)
			is(t, x.Seek(parent, 2, 0), api.OK)
			has(t, x, sorted(entries(parent, 0), entries(child, 32))...)
			is(t, x.Fork(parent, child), api.ErrState)
			is(t, x.Fork(child, parent), api.ErrState)
			is(t, x.Close(parent, 0), api.OK)
			adds(t, x, child, api.Reader, 0, 1)
			if x.Drop(parent) != 2 {
				t.Error("Drop")
			}
			has(t, x, slices.Insert(entries(child, 32), 1, Entry{child, 1, api.Reader, 0, 0})...)
		}
	}
}

// wrongForks wants that Fork tells what is no process's number, or one twice.
func wrongForks(t *testing.T, x *Table) {
	t.Helper()
	for pid := 1; pid <= 6; pid++ {
		is(t, x.Fork(pid, pid), api.ErrArg)
		for _, wrong := range noProcs {
			is(t, x.Fork(pid, wrong), api.ErrArg)
			is(t, x.Fork(wrong, pid), api.ErrArg)
			is(t, x.Fork(wrong, wrong), api.ErrArg)
		}
	}
}

func TestForkWrong(t *testing.T) { // 24.2, R4: ErrArg, ahead of ErrState; ErrState, whichever slot child has; nothing changes
	x := New()
	wrongForks(t, x)
	has(t, x)
	for slot := range 6 {
		x := loaded(t, Entry{2, slot, api.Console, 0, 0})
		wrongForks(t, x)
		is(t, x.Fork(1, 2), api.ErrState)
		has(t, x, Entry{2, slot, api.Console, 0, 0})
		is(t, x.Close(2, slot), api.OK)
		is(t, x.Fork(1, 2), api.OK)
		has(t, x)
	}
}

func TestDrop(t *testing.T) { // 24.2: all of the process are gone: how many
	for pid := 1; pid <= 6; pid++ {
		x := New()
		var left []Entry
		for other := 1; other <= 6; other++ {
			for slot := range other {
				adds(t, x, other, api.File, slot%4, slot)
				if other != pid {
					left = append(left, Entry{other, slot, api.File, slot % 4, 0})
				}
			}
		}
		for _, n := range noProcs {
			if x.Drop(n) != 0 {
				t.Errorf("Drop(%d): something", n)
			}
		}
		if n := x.Drop(pid); n != pid {
			t.Errorf("Drop(%d): %d", pid, n)
		}
		has(t, x, left...)
		if n := x.Drop(pid); n != 0 {
			t.Errorf("Drop(%d) again: %d", pid, n)
		}
		has(t, x, left...)
		adds(t, x, pid, api.Console, 0, 0)
	}
}

func TestDropWithGaps(t *testing.T) { // 24.2: whichever slots they stand in
	x := loaded(t, Entry{3, 5, api.Console, 0, 0}, Entry{3, 1, api.File, 1, 9}, Entry{3, 3, api.File, 1, 9}, Entry{4, 1, api.File, 1, 9})
	if n := x.Drop(3); n != 3 {
		t.Errorf("Drop: %d", n)
	}
	has(t, x, Entry{4, 1, api.File, 1, 9})
}

func TestRefs(t *testing.T) { // 24.2: how many there are of that kind and object; of other numbers none
	x := New()
	adds(t, x, 1, api.Reader, 1, 0)
	adds(t, x, 1, api.Writer, 1, 1)
	adds(t, x, 1, api.File, 1, 2)
	adds(t, x, 2, api.Reader, 1, 0)
	adds(t, x, 2, api.Reader, 0, 1)
	dups(t, x, 2, 0, 2)
	for _, c := range []struct{ kind, obj, want int }{
		{api.Reader, 1, 3}, {api.Reader, 0, 1}, {api.Reader, 2, 0}, {api.Writer, 1, 1}, {api.Writer, 0, 0}, {api.File, 1, 1}, {api.Console, 0, 0},
	} {
		if n := x.Refs(c.kind, c.obj); n != c.want {
			t.Errorf("Refs(%d, %d): %d, not %d", c.kind, c.obj, n, c.want)
		}
	}
	is(t, x.Fork(2, 3), api.OK)
	if n := x.Refs(api.Reader, 1); n != 5 {
		t.Errorf("Refs: %d", n)
	}
	for _, n := range far {
		if x.Refs(n, 1) != 0 || x.Refs(api.Reader, n) != 0 {
			t.Errorf("Refs of %d", n)
		}
	}
}

// all is a full table's list.
func all() []Entry {
	var l []Entry
	for pid := 1; pid <= 6; pid++ {
		for slot := range 6 {
			k := kinds[(pid+slot)%4]
			l = append(l, Entry{pid, slot, k.kind, pid % k.objects, (pid*6 + slot) % (k.far + 1)})
		}
	}
	return l
}

func TestLoad(t *testing.T) { // 24.2: these, in whichever order they are told
	for _, l := range [][]Entry{nil, {}} {
		has(t, loaded(t, l...))
	}
	l := all()
	has(t, loaded(t, l...), l...)
	back := slices.Clone(l)
	slices.Reverse(back)
	x := loaded(t, back...)
	has(t, x, l...)
	for pid := 1; pid <= 6; pid++ {
		refuses(t, x, pid, api.Console, 0, api.ErrFull)
	}
	x = loaded(t, Entry{2, 1, api.File, 1, 8}, Entry{1, 5, api.Reader, 0, 0})
	adds(t, x, 2, api.File, 1, 0)
	dups(t, x, 2, 1, 2)
	has(t, x, Entry{1, 5, api.Reader, 0, 0}, Entry{2, 0, api.File, 1, 0}, Entry{2, 1, api.File, 1, 8}, Entry{2, 2, api.File, 1, 8})
}

func TestLoadWrong(t *testing.T) { // 24.2, R4: ErrForm, if one is no descriptor, or two stand in one slot
	right := Entry{2, 1, api.File, 1, 8}
	wrong := [][]Entry{
		{right, right},
		{right, {2, 1, api.Console, 0, 0}},
		{right, {1, 1, api.File, 1, 8}, {2, 2, api.File, 1, 8}, {2, 1, api.File, 2, 9}},
		append(all(), all()[0]),
		append(all(), all()[35]),
		slices.Repeat([]Entry{right, {3, 1, api.File, 1, 8}}, 100000),
	}
	bad := []Entry{{}}
	for _, n := range far {
		bad = append(bad, Entry{n, 1, api.File, 1, 8}, Entry{2, n, api.File, 1, 8}, Entry{2, 1, n, 1, 8}, Entry{2, 1, api.File, n, 8}, Entry{2, 1, api.File, 1, n})
	}
	bad = append(bad, Entry{0, 1, api.File, 1, 8}, Entry{7, 1, api.File, 1, 8}, Entry{2, 6, api.File, 1, 8}, Entry{2, 1, 0, 1, 8}, Entry{2, 1, 5, 0, 0},
		Entry{2, 1, api.File, 4, 8}, Entry{2, 1, api.Console, 1, 0}, Entry{2, 1, api.Console, 0, 1}, Entry{2, 1, api.Reader, 3, 0}, Entry{2, 1, api.Reader, 0, 1},
		Entry{2, 1, api.Writer, 3, 0}, Entry{2, 1, api.Writer, 0, 1})
	for _, e := range bad {
		wrong = append(wrong, []Entry{e}, []Entry{{1, 0, api.Console, 0, 0}, e}, []Entry{e, {1, 0, api.Console, 0, 0}})
	}
	for i, l := range wrong {
		if x, e := Load(l); x != nil || e != api.ErrForm {
			t.Errorf("Load %d: %v, %v", i, x, e)
		}
	}
	has(t, loaded(t, right), right)
}

func TestLoadOfList(t *testing.T) { // 24.4: the same table, which goes on by itself
	x := New()
	adds(t, x, 1, api.File, 2, 0)
	adds(t, x, 1, api.Console, 0, 1)
	is(t, x.Seek(1, 0, 30), api.OK)
	is(t, x.Fork(1, 4), api.OK)
	is(t, x.Close(1, 0), api.OK)
	want := []Entry{{1, 1, api.Console, 0, 0}, {4, 0, api.File, 2, 30}, {4, 1, api.Console, 0, 0}}
	y := loaded(t, x.List()...)
	has(t, y, want...)
	adds(t, y, 1, api.Writer, 0, 0)
	is(t, y.Seek(4, 0, 1), api.OK)
	is(t, y.Close(4, 1), api.OK)
	has(t, y, Entry{1, 0, api.Writer, 0, 0}, Entry{1, 1, api.Console, 0, 0}, Entry{4, 0, api.File, 2, 1})
	has(t, x, want...)
	has(t, loaded(t, y.List()...), y.List()...)
}

func TestMemory(t *testing.T) { // R3: what is handed in is not changed and not kept; what is answered is its caller's; spare room too
	want := []Entry{{1, 1, api.Console, 0, 0}, {4, 0, api.File, 2, 30}}
	room := []Entry{want[1], want[0], {9, 9, 9, 9, 9}}
	x := loaded(t, room[:2]...)
	if !slices.Equal(room, []Entry{want[1], want[0], {9, 9, 9, 9, 9}}) {
		t.Errorf("Load changed %v", room)
	}
	clear(room)
	has(t, x, want...)
	told, other := x.List(), x.List()
	clear(told[:cap(told)])
	has(t, x, want...)
	is(t, x.Seek(4, 0, 1), api.OK)
	is(t, x.Close(1, 1), api.OK)
	if !slices.Equal(other, want) {
		t.Errorf("List: %v", other)
	}
}

func TestZeroTable(t *testing.T) { // a table that New did not make is empty too
	x := &Table{}
	has(t, x)
	is(t, x.Fork(1, 2), api.OK)
	if x.Drop(1) != 0 {
		t.Error("Drop")
	}
	adds(t, x, 1, api.Console, 0, 0)
	has(t, x, Entry{1, 0, api.Console, 0, 0})
}

func TestNilTable(t *testing.T) { // empty: Add and Fork ErrState (ErrArg first), others ErrNone; 0; R4, R6
	var x *Table
	for range 2 {
		has(t, x)
		wrongAdds(t, x)
		wrongForks(t, x)
		for pid := 1; pid <= 6; pid++ {
			for _, k := range kinds {
				refuses(t, x, pid, k.kind, k.objects-1, api.ErrState)
			}
			is(t, x.Fork(pid, pid%6+1), api.ErrState)
		}
		for _, n := range append([]int{1, 2, 6}, noProcs...) {
			if x.Drop(n) != 0 || x.Refs(n, n) != 0 || x.Refs(api.File, n) != 0 {
				t.Errorf("Drop or Refs of %d", n)
			}
		}
	}
}
