package spans

import (
	"math"
	"slices"
	"testing"

	"imago/api"
)

// far are numbers that are none of anything.
var far = []int{math.MinInt, -1, 17, 1 << 32, math.MaxInt}

// noProcs are numbers that are no process.
var noProcs = append([]int{0, 7}, far...)

// noProts are numbers that are no Prot.
var noProts = append([]int{0, 2, 4, 5, 7, -3}, far...)

func is(t *testing.T, e, want api.Errno) {
	t.Helper()
	if e != want {
		t.Errorf("%v, not %v", e, want)
	}
}

func maps(t *testing.T, x *Table, pid, n, want int) {
	t.Helper()
	if first, e := x.Map(pid, n); first != want || e != api.OK {
		t.Fatalf("Map(%d, %d): %d, %v, not %d", pid, n, first, e, want)
	}
}

// noMap wants that Map tells an error, and no page.
func noMap(t *testing.T, x *Table, pid, n int, want api.Errno) {
	t.Helper()
	if first, e := x.Map(pid, n); first != 0 || e != want {
		t.Errorf("Map(%d, %d): %d, %v, not %v", pid, n, first, e, want)
	}
}

func unmaps(t *testing.T, x *Table, pid, first, want int) {
	t.Helper()
	if n, e := x.Unmap(pid, first); n != want || e != api.OK {
		t.Fatalf("Unmap(%d, %d): %d, %v, not %d", pid, first, n, e, want)
	}
}

// none wants that no span of the process begins there.
func none(t *testing.T, x *Table, pid, first int) {
	t.Helper()
	if n, e := x.Unmap(pid, first); n != 0 || e != api.ErrNone {
		t.Errorf("Unmap(%d, %d): %d, %v", pid, first, n, e)
	}
	for _, prot := range []int{ReadOnly, ReadWrite, 2, math.MinInt} { // that comes ahead of a wrong Prot
		is(t, x.Protect(pid, first, prot), api.ErrNone)
	}
}

// drops wants that so many spans of a process are gone.
func drops(t *testing.T, x *Table, pid, want int) {
	t.Helper()
	if n := x.Drop(pid); n != want {
		t.Errorf("Drop(%d): %d, not %d", pid, n, want)
	}
}

// has wants just these spans, by all calls that tell of them.
func has(t *testing.T, x *Table, want ...Span) {
	t.Helper()
	if l := x.All(); !slices.Equal(l, want) {
		t.Fatalf("All: %v, not %v", l, want)
	}
	for pid := -1; pid <= 8; pid++ {
		for page := -2; page <= 18; page++ {
			prot, begins := 0, 0
			for _, s := range want {
				if s.PID == pid && page >= s.First && page < s.First+s.Count {
					prot += s.Prot
				}
				if s.PID == pid && page == s.First {
					begins++
				}
			}
			if read, write := x.May(pid, page, false), x.May(pid, page, true); read != (prot == 1 || prot == 3) || write != (prot == 3) {
				t.Errorf("May(%d, %d): %v, %v, with %v", pid, page, read, write, want)
			}
			if begins == 0 {
				none(t, x, pid, page)
			}
		}
	}
}

// loaded is the table of right spans.
func loaded(t *testing.T, l ...Span) *Table {
	t.Helper()
	x, e := Load(l)
	if x == nil || e != api.OK {
		t.Fatalf("Load(%v): %v, %v", l, x, e)
	}
	return x
}

// all is a list with as many spans as there may be, of both Prots.
func all() []Span {
	var l []Span
	for pid := 1; pid <= 6; pid++ {
		for i := range 4 {
			l = append(l, Span{pid, i * 4, 1 + (i+pid)%4, 1 + 2*((i+pid)/2%2)})
		}
	}
	return l
}

func TestProts(t *testing.T) { // the chapter's numbers
	if ReadOnly != 1 || ReadWrite != 3 {
		t.Error(ReadOnly, ReadWrite)
	}
}

func TestNew(t *testing.T) { // no span; tables of two calls are apart
	x, y := New(), New()
	if x == nil || y == nil {
		t.Fatal("New: nothing")
	}
	has(t, x)
	maps(t, x, 1, 3, 0)
	has(t, y)
	has(t, New())
	has(t, x, Span{1, 0, 3, ReadWrite})
}

func TestExample(t *testing.T) { // the chapter's example
	x := New()
	maps(t, x, 1, 4, 0)
	is(t, x.Protect(1, 0, ReadOnly), api.OK)
	if x.May(1, 3, true) || !x.May(1, 3, false) || x.May(1, 4, false) {
		t.Error("May")
	}
	has(t, x, Span{1, 0, 4, ReadOnly})
}

func TestMap(t *testing.T) { // 27.1: n pages from the lowest one on where they fit, ReadWrite; each process has pages of its own
	for n := 1; n <= 16; n++ {
		x := New()
		var want []Span
		for pid := 6; pid >= 1; pid-- {
			var own []Span
			for i := range min(4, 16/n) {
				maps(t, x, pid, n, i*n)
				own = append(own, Span{pid, i * n, n, ReadWrite})
			}
			noMap(t, x, pid, n, api.ErrFull)
			want = append(own, want...)
		}
		has(t, x, want...)
	}
}

func TestMapBetween(t *testing.T) { // 27.1: in the lowest gap that is wide enough, and in no other; what else is there stays, with its Prot
	gaps := []Span{{2, 2, 3, ReadOnly}, {2, 6, 2, ReadWrite}, {2, 12, 1, ReadOnly}} // free: 0, 1; 5; 8 to 11; 13 to 15
	firsts, ranks := []int{0, 0, 8, 8}, []int{0, 0, 2, 2}
	for n := 1; n <= 16; n++ {
		x := loaded(t, append(slices.Clone(gaps), Span{3, 0, 16, ReadOnly})...)
		want := append(slices.Clone(gaps), Span{3, 0, 16, ReadOnly})
		if n > 4 {
			noMap(t, x, 2, n, api.ErrFull)
		} else {
			maps(t, x, 2, n, firsts[n-1])
			want = slices.Insert(want, ranks[n-1], Span{2, firsts[n-1], n, ReadWrite})
		}
		has(t, x, want...)
	}
	x := loaded(t, Span{1, 0, 5, ReadOnly}, Span{1, 6, 7, ReadOnly})
	maps(t, x, 1, 3, 13)
	maps(t, x, 1, 1, 5)
	has(t, x, Span{1, 0, 5, ReadOnly}, Span{1, 5, 1, ReadWrite}, Span{1, 6, 7, ReadOnly}, Span{1, 13, 3, ReadWrite})
}

func TestMapAllPlaces(t *testing.T) { // 27.1: whichever pages are free, Map finds a place just if there is one, the lowest
	for a := range 16 {
		for wide := 1; wide <= 16-a; wide++ {
			for n := 1; n <= 16; n++ {
				x := loaded(t, Span{1, a, wide, ReadOnly})
				switch {
				case n <= a:
					maps(t, x, 1, n, 0)
				case n <= 16-a-wide:
					maps(t, x, 1, n, a+wide)
				default:
					noMap(t, x, 1, n, api.ErrFull)
				}
			}
		}
	}
}

func TestMapFull(t *testing.T) { // 27.1: MaxAreas at most, be there room or not; one that is gone makes room
	x := New()
	for i := range 4 {
		maps(t, x, 1, 1, i)
	}
	four := []Span{{1, 0, 1, 3}, {1, 1, 1, 3}, {1, 2, 1, 3}, {1, 3, 1, 3}}
	for n := 1; n <= 16; n++ {
		noMap(t, x, 1, n, api.ErrFull)
	}
	has(t, x, four...)
	maps(t, x, 2, 16, 0)
	noMap(t, x, 2, 1, api.ErrFull)
	has(t, x, append(four, Span{2, 0, 16, 3})...)
	unmaps(t, x, 1, 1, 1)
	maps(t, x, 1, 12, 4)
	noMap(t, x, 1, 1, api.ErrFull)
	has(t, x, Span{1, 0, 1, 3}, Span{1, 2, 1, 3}, Span{1, 3, 1, 3}, Span{1, 4, 12, 3}, Span{2, 0, 16, 3})
}

// wrongMaps wants that Map tells what is no process's number, or no number of pages.
func wrongMaps(t *testing.T, x *Table) {
	t.Helper()
	for _, pid := range noProcs {
		for _, n := range append([]int{0, 1, 16}, far...) {
			noMap(t, x, pid, n, api.ErrArg)
		}
	}
	for pid := 1; pid <= 6; pid++ {
		for _, n := range append([]int{0, 18}, far...) {
			noMap(t, x, pid, n, api.ErrArg)
		}
	}
}

func TestMapWrong(t *testing.T) { // 27.1, R4: ErrArg, ahead of ErrFull; nothing changes
	x := New()
	wrongMaps(t, x)
	has(t, x)
	x = loaded(t, all()...)
	wrongMaps(t, x)
	for pid := 1; pid <= 6; pid++ {
		noMap(t, x, pid, 1, api.ErrFull)
	}
	has(t, x, all()...)
}

func TestUnmap(t *testing.T) { // 27.1: that span is gone, it alone, whatever its Prot: how many pages it had; ErrNone, if none of the process begins there
	for i, gone := range all() {
		x := loaded(t, all()...)
		left := slices.Delete(all(), i, i+1)
		for page := gone.First + 1; page < gone.First+gone.Count; page++ {
			none(t, x, gone.PID, page)
		}
		unmaps(t, x, gone.PID, gone.First, gone.Count)
		has(t, x, left...)
		none(t, x, gone.PID, gone.First)
		has(t, x, left...)
	}
	x := loaded(t, Span{1, 0, 2, ReadOnly}, Span{1, 2, 2, ReadOnly})
	unmaps(t, x, 1, 0, 2)
	maps(t, x, 1, 1, 0)
	has(t, x, Span{1, 0, 1, ReadWrite}, Span{1, 2, 2, ReadOnly})
}

func TestNoneBegins(t *testing.T) { // 27.1, R4: Unmap and Protect tell ErrNone, whatever the numbers are; nothing changes
	x := loaded(t, all()...)
	for _, pid := range noProcs {
		for _, first := range append([]int{0, 4, 16}, far...) {
			none(t, x, pid, first)
		}
	}
	for pid := 1; pid <= 6; pid++ {
		for _, first := range append([]int{16, 3, 15}, far...) {
			none(t, x, pid, first)
		}
	}
	has(t, x, all()...)
}

func TestProtect(t *testing.T) { // 27.1: that span has the Prot, all its pages, it alone; and may have another one again
	for i, s := range all() {
		for _, prot := range []int{ReadOnly, ReadWrite} {
			x := loaded(t, all()...)
			want := all()
			for _, now := range []int{prot, prot, ReadOnly, ReadWrite, ReadOnly} {
				is(t, x.Protect(s.PID, s.First, now), api.OK)
				want[i].Prot = now
				has(t, x, want...)
			}
		}
	}
	x := loaded(t, Span{1, 0, 2, 3}, Span{1, 2, 2, 3}, Span{2, 0, 16, 3}, Span{3, 2, 1, 1}) // neighbours stay as they are
	is(t, x.Protect(1, 2, ReadOnly), api.OK)
	is(t, x.Protect(2, 0, ReadOnly), api.OK)
	is(t, x.Protect(3, 2, ReadWrite), api.OK)
	has(t, x, Span{1, 0, 2, 3}, Span{1, 2, 2, 1}, Span{2, 0, 16, 1}, Span{3, 2, 1, 3})
	is(t, x.Protect(1, 0, ReadOnly), api.OK)
	has(t, x, Span{1, 0, 2, 1}, Span{1, 2, 2, 1}, Span{2, 0, 16, 1}, Span{3, 2, 1, 3})
	unmaps(t, x, 1, 0, 2)
	maps(t, x, 1, 2, 0) // what was protected before is not any more
	has(t, x, Span{1, 0, 2, 3}, Span{1, 2, 2, 1}, Span{2, 0, 16, 1}, Span{3, 2, 1, 3})
}

func TestProtectWrong(t *testing.T) { // 27.1, R4: ErrArg, if prot is none; nothing changes
	x := loaded(t, all()...)
	for _, s := range all() {
		for _, prot := range noProts {
			is(t, x.Protect(s.PID, s.First, prot), api.ErrArg)
		}
	}
	has(t, x, all()...)
}

func TestMay(t *testing.T) { // 27.1: from a span's first to its last page, of its process alone, to be written if it is ReadWrite; other numbers are in none
	for _, prot := range []int{ReadOnly, ReadWrite} {
		for first := range 16 {
			for count := 1; count <= 16-first; count++ {
				has(t, loaded(t, Span{3, first, count, prot}), Span{3, first, count, prot})
			}
		}
	}
	x := loaded(t, Span{1, 0, 16, 3}, Span{6, 0, 16, 3})
	for range 2 {
		for _, write := range []bool{false, true} {
			for _, n := range append([]int{16, 31, 32, 256}, far...) {
				for pid := range 8 {
					if x.May(pid, n, write) {
						t.Errorf("May(%d, %d)", pid, n)
					}
				}
			}
			for _, pid := range append([]int{2, 5}, noProcs...) {
				for page := range 16 {
					if x.May(pid, page, write) {
						t.Errorf("May(%d, %d)", pid, page)
					}
				}
			}
		}
	}
}

// as are spans like those of a list, of a process.
func as(pid int, l []Span) []Span {
	l = slices.Clone(l)
	for i := range l {
		l[i].PID = pid
	}
	return l
}

func TestFork(t *testing.T) { // 27.1: child has those that parent has, with their Prots; they are apart from then on
	four := []Span{{0, 0, 5, 1}, {0, 7, 1, 3}, {0, 9, 2, 3}, {0, 12, 1, 1}}
	for parent := 1; parent <= 6; parent++ {
		for child := 1; child <= 6; child++ {
			if parent == child {
				continue
			}
			other := 1
			for other == parent || other == child {
				other++
			}
			var rows [7][]Span // each process's
			rows[parent], rows[other] = as(parent, four), []Span{{other, 1, 15, 1}}
			x := loaded(t, slices.Concat(rows[:]...)...)
			is(t, x.Fork(parent, child), api.OK)
			rows[child] = as(child, four)
			has(t, x, slices.Concat(rows[:]...)...)
			is(t, x.Fork(parent, child), api.ErrState)
			is(t, x.Fork(child, parent), api.ErrState)
			has(t, x, slices.Concat(rows[:]...)...)
			is(t, x.Protect(child, 0, ReadWrite), api.OK)
			is(t, x.Protect(parent, 7, ReadOnly), api.OK)
			rows[child][0].Prot, rows[parent][1].Prot = 3, 1
			has(t, x, slices.Concat(rows[:]...)...)
			unmaps(t, x, child, 0, 5)
			unmaps(t, x, parent, 9, 2)
			maps(t, x, child, 6, 0)
			rows[child][0], rows[parent] = Span{child, 0, 6, 3}, slices.Delete(rows[parent], 2, 3)
			has(t, x, slices.Concat(rows[:]...)...)
		}
	}
}

// wrongForks wants that Fork tells what is no process's number, or one twice.
func wrongForks(t *testing.T, x *Table) {
	t.Helper()
	for pid := 1; pid <= 6; pid++ {
		is(t, x.Fork(pid, pid), api.ErrArg)
		for _, wrong := range noProcs {
			is(t, x.Fork(pid, wrong), api.ErrArg)
			is(t, x.Fork(wrong, pid), api.ErrArg)
			is(t, x.Fork(wrong, wrong), api.ErrArg)
		}
	}
}

func TestForkWrong(t *testing.T) { // 27.1, R4: ErrArg, ahead of ErrState; ErrState, if child has a span, whether parent has one or not; nothing changes
	x := New()
	wrongForks(t, x)
	is(t, x.Fork(1, 2), api.OK)
	has(t, x)
	for first := range 16 {
		for _, prot := range []int{ReadOnly, ReadWrite} {
			x := loaded(t, Span{2, first, 1, prot})
			wrongForks(t, x)
			is(t, x.Fork(1, 2), api.ErrState)
			has(t, x, Span{2, first, 1, prot})
			unmaps(t, x, 2, first, 1)
			is(t, x.Fork(1, 2), api.OK)
			has(t, x)
		}
	}
	x = loaded(t, all()...)
	wrongForks(t, x)
	is(t, x.Fork(6, 1), api.ErrState)
	has(t, x, all()...)
}

func TestDrop(t *testing.T) { // 27.1: all spans of the process are gone: how many; those of others stay
	for pid := 1; pid <= 6; pid++ {
		x := loaded(t, all()...)
		for _, n := range noProcs {
			drops(t, x, n, 0)
		}
		has(t, x, all()...)
		drops(t, x, pid, 4)
		left := slices.DeleteFunc(all(), func(s Span) bool { return s.PID == pid })
		has(t, x, left...)
		drops(t, x, pid, 0)
		has(t, x, left...)
		maps(t, x, pid, 16, 0)
		unmaps(t, x, pid, 0, 16)
		is(t, x.Fork(pid%6+1, pid), api.OK)
	}
	x := loaded(t, Span{1, 0, 1, 3}, Span{3, 2, 4, 1}, Span{3, 8, 8, 3})
	drops(t, x, 3, 2)
	drops(t, x, 1, 1)
	has(t, x)
}

func TestAll(t *testing.T) { // 27.2: by processes, then by their first pages, in whatever order they came
	x := New()
	maps(t, x, 5, 6, 0)
	maps(t, x, 2, 3, 0)
	maps(t, x, 5, 1, 6)
	unmaps(t, x, 5, 0, 6)
	is(t, x.Fork(2, 1), api.OK)
	maps(t, x, 5, 2, 0)
	maps(t, x, 2, 1, 3)
	has(t, x, Span{1, 0, 3, 3}, Span{2, 0, 3, 3}, Span{2, 3, 1, 3}, Span{5, 0, 2, 3}, Span{5, 6, 1, 3})
}

func TestLoad(t *testing.T) { // 27.2: these
	for _, l := range [][]Span{nil, {}} {
		has(t, loaded(t, l...))
	}
	has(t, loaded(t, all()...), all()...)
	for _, s := range []Span{{1, 0, 1, 1}, {1, 0, 16, 3}, {6, 15, 1, 3}, {6, 1, 15, 1}} {
		has(t, loaded(t, s), s)
	}
	x := loaded(t, Span{1, 0, 16, 1}, Span{2, 3, 1, 1}, Span{2, 4, 4, 3}, Span{2, 8, 1, 1})
	maps(t, x, 2, 4, 9)
	noMap(t, x, 2, 1, api.ErrFull)
	has(t, x, Span{1, 0, 16, 1}, Span{2, 3, 1, 1}, Span{2, 4, 4, 3}, Span{2, 8, 1, 1}, Span{2, 9, 4, 3})
}

// noLoad wants that Load tells ErrForm, and no table.
func noLoad(t *testing.T, l ...Span) {
	t.Helper()
	if x, e := Load(l); x != nil || e != api.ErrForm {
		t.Errorf("Load(%v): %v, %v", l[:min(len(l), 6)], x, e)
	}
}

func TestLoadWrong(t *testing.T) { // 27.2, R4: ErrForm, if one is no span
	low, high := Span{1, 6, 4, 3}, Span{6, 6, 4, 1}
	wrong := []Span{{}, {0, 1, 1, 3}, {7, 1, 1, 3}, {2, 16, 1, 3}, {2, 16, 0, 3}, {2, 15, 2, 3}, {2, 0, 17, 3}, {2, 1, 16, 3}, {2, 8, 9, 3}, {2, 0, 0, 3}, {2, 15, 0, 3}, {2, 1, -1, 3}, {2, 5, -5, 3},
		{2, -1, 2, 3}, {2, -3, 8, 3}, {2, math.MaxInt, math.MaxInt, 3}, {2, math.MinInt, math.MinInt, 3}, {2, 15, math.MaxInt - 14, 3}, {2, 1, math.MaxInt, 3}}
	for _, n := range far {
		wrong = append(wrong, Span{n, 1, 1, 3}, Span{2, n, 1, 3}, Span{2, 1, n, 3})
	}
	for _, prot := range noProts {
		wrong = append(wrong, Span{2, 1, 1, prot})
	}
	for _, s := range wrong {
		noLoad(t, s)
		noLoad(t, low, s)
		noLoad(t, s, high)
		noLoad(t, low, s, high)
	}
	has(t, loaded(t, low, high), low, high)
}

func TestLoadPairs(t *testing.T) { // 27.2: of all pairs of spans of one process: ErrForm, if they have a page in common, or are in the other order; of unlike ones they may have
	var some []Span
	for first := range 16 {
		for count := 1; count <= 16-first; count++ {
			some = append(some, Span{4, first, count, 1 + 2*(count%2)})
		}
	}
	for _, a := range some {
		for _, b := range some {
			right := a.First+a.Count <= b.First
			if x, e := Load([]Span{a, b}); right != (e == api.OK) || right != (x != nil) || !right && e != api.ErrForm {
				t.Errorf("Load(%v, %v): %v", a, b, e)
			}
			other := Span{5, b.First, b.Count, b.Prot}
			if x := loaded(t, a, other); !slices.Equal(x.All(), []Span{a, other}) {
				t.Errorf("Load(%v, %v): %v", a, other, x.All())
			}
			noLoad(t, other, a)
		}
	}
}

func TestLoadOrder(t *testing.T) { // 27.2: ErrForm, if the list is not in All's order, wherever that is so
	l := all()
	for i := range l {
		for j := range i {
			l[i], l[j] = l[j], l[i]
			noLoad(t, l...)
			l[i], l[j] = l[j], l[i]
		}
	}
	has(t, loaded(t, l...), l...)
	back := all()
	slices.Reverse(back)
	noLoad(t, back...)
	noLoad(t, Span{1, 0, 1, 3}, Span{2, 0, 1, 3}, Span{1, 1, 1, 3})
}

func TestLoadTooMany(t *testing.T) { // 27.2: ErrForm, if a process has more than MaxAreas
	var thin []Span
	for page := range 16 {
		thin = append(thin, Span{3, page, 1, 3})
	}
	has(t, loaded(t, thin[:4]...), thin[:4]...)
	has(t, loaded(t, thin[12:]...), thin[12:]...)
	noLoad(t, thin[:5]...)
	noLoad(t, thin[11:]...)
	noLoad(t, thin...)
	noLoad(t, append(as(1, thin[:4]), thin[:5]...)...)
	noLoad(t, append(thin[:5:5], as(4, thin[:4])...)...)
	has(t, loaded(t, append(as(1, thin[:4]), thin[:4]...)...), append(as(1, thin[:4]), thin[:4]...)...)
	noLoad(t, slices.Repeat(all(), 20000)...)
}

func TestLoadOfAll(t *testing.T) { // 27.4: the same table, which goes on by itself
	x := New()
	maps(t, x, 1, 4, 0)
	maps(t, x, 2, 2, 0)
	maps(t, x, 1, 5, 4)
	unmaps(t, x, 1, 0, 4)
	maps(t, x, 1, 1, 0)
	is(t, x.Protect(1, 4, ReadOnly), api.OK)
	is(t, x.Fork(1, 4), api.OK)
	want := []Span{{1, 0, 1, 3}, {1, 4, 5, 1}, {2, 0, 2, 3}, {4, 0, 1, 3}, {4, 4, 5, 1}}
	y := loaded(t, x.All()...)
	has(t, y, want...)
	maps(t, y, 4, 3, 1)
	unmaps(t, y, 1, 4, 5)
	drops(t, y, 2, 1)
	is(t, y.Protect(4, 0, ReadOnly), api.OK)
	has(t, y, Span{1, 0, 1, 3}, Span{4, 0, 1, 1}, Span{4, 1, 3, 3}, Span{4, 4, 5, 1})
	has(t, x, want...)
	has(t, loaded(t, y.All()...), y.All()...)
}

func TestMemory(t *testing.T) { // R3: what is handed in is not changed and not kept; what is answered is its caller's; spare room too
	want := []Span{{1, 1, 2, 1}, {4, 0, 3, 3}, {4, 8, 8, 1}}
	room := append(slices.Clone(want), Span{9, 9, 9, 9}, Span{9, 9, 9, 9})
	x := loaded(t, room[:3]...)
	maps(t, x, 1, 1, 0)
	unmaps(t, x, 1, 0, 1)
	if !slices.Equal(room, append(slices.Clone(want), Span{9, 9, 9, 9}, Span{9, 9, 9, 9})) {
		t.Errorf("Load changed %v", room)
	}
	clear(room)
	has(t, x, want...)
	told, other := x.All(), x.All()
	clear(told[:cap(told)])
	has(t, x, want...)
	maps(t, x, 4, 1, 3)
	told = x.All()
	clear(told[:cap(told)])
	unmaps(t, x, 4, 0, 3)
	drops(t, x, 1, 1)
	if !slices.Equal(other, want) {
		t.Errorf("All: %v", other)
	}
	has(t, x, Span{4, 3, 1, 3}, Span{4, 8, 8, 1})
}

func TestZeroTable(t *testing.T) { // a table that New did not make has no span either
	x := &Table{}
	has(t, x)
	is(t, x.Fork(1, 2), api.OK)
	drops(t, x, 1, 0)
	maps(t, x, 1, 16, 0)
	has(t, x, Span{1, 0, 16, 3})
}

func TestNilTable(t *testing.T) { // empty: Map and Fork ErrState (ErrArg first), Unmap and Protect ErrNone; nothing; R4, R6
	var x *Table
	for range 2 {
		has(t, x)
		wrongMaps(t, x)
		wrongForks(t, x)
		for pid := 1; pid <= 6; pid++ {
			for n := 1; n <= 16; n++ {
				noMap(t, x, pid, n, api.ErrState)
			}
			is(t, x.Fork(pid, pid%6+1), api.ErrState)
		}
		for _, n := range append([]int{1, 2, 6}, noProcs...) {
			drops(t, x, n, 0)
			none(t, x, n, n)
			for _, write := range []bool{false, true} {
				if x.May(n, n, write) || x.May(1, n, write) {
					t.Errorf("May of %d", n)
				}
			}
		}
	}
}
