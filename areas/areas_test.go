package areas

import (
	"math"
	"slices"
	"testing"

	"imago/api"
)

// far are numbers that are none of anything.
var far = []int{math.MinInt, -1, 17, 1 << 32, math.MaxInt}

// noProcs are numbers that are no process.
var noProcs = append([]int{0, 7}, far...)

func is(t *testing.T, e, want api.Errno) {
	t.Helper()
	if e != want {
		t.Errorf("%v, not %v", e, want)
	}
}

func maps(t *testing.T, x *List, pid, n, want int) {
	t.Helper()
	if first, e := x.Map(pid, n); first != want || e != api.OK {
		t.Fatalf("Map(%d, %d): %d, %v, not %d", pid, n, first, e, want)
	}
}

// noMap wants that Map tells an error, and no page.
func noMap(t *testing.T, x *List, pid, n int, want api.Errno) {
	t.Helper()
	if first, e := x.Map(pid, n); first != 0 || e != want {
		t.Errorf("Map(%d, %d): %d, %v, not %v", pid, n, first, e, want)
	}
}

func unmaps(t *testing.T, x *List, pid, first, want int) {
	t.Helper()
	if n, e := x.Unmap(pid, first); n != want || e != api.OK {
		t.Fatalf("Unmap(%d, %d): %d, %v, not %d", pid, first, n, e, want)
	}
}

// noUnmap wants that no area of the process begins there.
func noUnmap(t *testing.T, x *List, pid, first int) {
	t.Helper()
	if n, e := x.Unmap(pid, first); n != 0 || e != api.ErrNone {
		t.Errorf("Unmap(%d, %d): %d, %v", pid, first, n, e)
	}
}

// drops wants that so many areas of a process are gone.
func drops(t *testing.T, x *List, pid, want int) {
	t.Helper()
	if n := x.Drop(pid); n != want {
		t.Errorf("Drop(%d): %d, not %d", pid, n, want)
	}
}

// has wants just these areas, by all calls that tell of them.
func has(t *testing.T, x *List, want ...Area) {
	t.Helper()
	if l := x.All(); !slices.Equal(l, want) {
		t.Fatalf("All: %v, not %v", l, want)
	}
	for pid := -1; pid <= 8; pid++ {
		for page := -2; page <= 18; page++ {
			in, begins := 0, 0
			for _, a := range want {
				if a.PID == pid && page >= a.First && page < a.First+a.Count {
					in++
				}
				if a.PID == pid && page == a.First {
					begins++
				}
			}
			if in > 1 || x.Has(pid, page) != (in == 1) {
				t.Errorf("Has(%d, %d): %v, with %v", pid, page, in != 1, want)
			}
			if begins == 0 {
				noUnmap(t, x, pid, page)
			}
		}
	}
}

// loaded is the list of right areas.
func loaded(t *testing.T, l ...Area) *List {
	t.Helper()
	x, e := Load(l)
	if x == nil || e != api.OK {
		t.Fatalf("Load(%v): %v, %v", l, x, e)
	}
	return x
}

func TestNew(t *testing.T) { // 26.1: no area; lists of two calls are apart
	x, y := New(), New()
	if x == nil || y == nil {
		t.Fatal("New: nothing")
	}
	has(t, x)
	maps(t, x, 1, 3, 0)
	has(t, y)
	has(t, New())
	has(t, x, Area{1, 0, 3})
}

func TestExample(t *testing.T) { // the chapter's example
	x := New()
	maps(t, x, 1, 4, 0)
	maps(t, x, 1, 2, 4)
	unmaps(t, x, 1, 0, 4)
	has(t, x, Area{1, 4, 2})
	maps(t, x, 1, 3, 0)
	has(t, x, Area{1, 4, 2}, Area{1, 0, 3})
}

func TestMap(t *testing.T) { // 26.1, 26.3: n pages from the lowest one on where they fit; each process has pages of its own
	for n := 1; n <= 16; n++ {
		x := New()
		var want []Area
		for pid := 6; pid >= 1; pid-- {
			for i := range min(4, 16/n) {
				maps(t, x, pid, n, i*n)
				want = append(want, Area{pid, i * n, n})
			}
			noMap(t, x, pid, n, api.ErrFull)
		}
		has(t, x, want...)
	}
}

func TestMapBetween(t *testing.T) { // 26.1, 26.4: in the lowest gap that is wide enough, and in no other; behind all else, too
	gaps := []Area{{2, 2, 3}, {2, 6, 2}, {2, 12, 1}} // free: 0, 1; 5; 8 to 11; 13 to 15
	firsts := []int{0, 0, 8, 8}
	for n := 1; n <= 16; n++ {
		x := loaded(t, append([]Area{{3, 0, 16}}, gaps...)...)
		if n > 4 {
			noMap(t, x, 2, n, api.ErrFull)
			has(t, x, append([]Area{{3, 0, 16}}, gaps...)...)
			continue
		}
		maps(t, x, 2, n, firsts[n-1])
		has(t, x, append([]Area{{3, 0, 16}}, append(gaps, Area{2, firsts[n-1], n})...)...)
	}
	x := loaded(t, Area{1, 0, 5}, Area{1, 6, 7})
	maps(t, x, 1, 3, 13)
	maps(t, x, 1, 1, 5)
	has(t, x, Area{1, 0, 5}, Area{1, 6, 7}, Area{1, 13, 3}, Area{1, 5, 1})
}

func TestMapAllPlaces(t *testing.T) { // 26.3, 26.4: whichever pages are free, Map finds a place just if there is one, the lowest
	for a := range 16 {
		for wide := 1; wide <= 16-a; wide++ {
			for n := 1; n <= 16; n++ {
				x := loaded(t, Area{1, a, wide})
				switch {
				case n <= a:
					maps(t, x, 1, n, 0)
				case n <= 16-a-wide:
					maps(t, x, 1, n, a+wide)
				default:
					noMap(t, x, 1, n, api.ErrFull)
				}
			}
		}
	}
}

func TestMapFull(t *testing.T) { // 26.1: MaxAreas at most, be there room or not; one that is gone makes room
	x := New()
	for i := range 4 {
		maps(t, x, 1, 1, i)
	}
	four := []Area{{1, 0, 1}, {1, 1, 1}, {1, 2, 1}, {1, 3, 1}}
	for n := 1; n <= 16; n++ {
		noMap(t, x, 1, n, api.ErrFull)
	}
	has(t, x, four...)
	maps(t, x, 2, 16, 0)
	noMap(t, x, 2, 1, api.ErrFull)
	has(t, x, append(four, Area{2, 0, 16})...)
	unmaps(t, x, 1, 1, 1)
	maps(t, x, 1, 12, 4)
	noMap(t, x, 1, 1, api.ErrFull)
	has(t, x, Area{1, 0, 1}, Area{1, 2, 1}, Area{1, 3, 1}, Area{2, 0, 16}, Area{1, 4, 12})
}

// wrongMaps wants that Map tells what is no process's number, or no number of pages.
func wrongMaps(t *testing.T, x *List) {
	t.Helper()
	for _, pid := range noProcs {
		for _, n := range append([]int{0, 1, 16}, far...) {
			noMap(t, x, pid, n, api.ErrArg)
		}
	}
	for pid := 1; pid <= 6; pid++ {
		for _, n := range append([]int{0, 18}, far...) {
			noMap(t, x, pid, n, api.ErrArg)
		}
	}
}

// all is a list with as many areas as there may be.
func all() []Area {
	var l []Area
	for i := range 4 {
		for pid := 1; pid <= 6; pid++ {
			l = append(l, Area{pid, (i*4 + pid*4) % 16, 1 + (i+pid)%4})
		}
	}
	return l
}

func TestMapWrong(t *testing.T) { // 26.1, R4: ErrArg, ahead of ErrFull; nothing changes
	x := New()
	wrongMaps(t, x)
	has(t, x)
	x = loaded(t, all()...)
	wrongMaps(t, x)
	for pid := 1; pid <= 6; pid++ {
		noMap(t, x, pid, 1, api.ErrFull)
	}
	has(t, x, all()...)
}

func TestUnmap(t *testing.T) { // 26.1: that area is gone, it alone: how many pages it had; ErrNone, if none of the process begins there
	for i, gone := range all() {
		x := loaded(t, all()...)
		left := slices.Delete(all(), i, i+1)
		for page := gone.First + 1; page < gone.First+gone.Count; page++ {
			noUnmap(t, x, gone.PID, page)
		}
		unmaps(t, x, gone.PID, gone.First, gone.Count)
		has(t, x, left...)
		noUnmap(t, x, gone.PID, gone.First)
		has(t, x, left...)
		maps(t, x, gone.PID, 1, lowest(left, gone.PID))
	}
}

// lowest is the lowest page that is in no area of a process.
func lowest(l []Area, pid int) int {
	page := 0
	for slices.ContainsFunc(l, func(a Area) bool { return a.PID == pid && page >= a.First && page < a.First+a.Count }) {
		page++
	}
	return page
}

func TestUnmapWrong(t *testing.T) { // 26.1, R4: ErrNone, whatever the numbers are; nothing changes
	x := loaded(t, all()...)
	for _, pid := range noProcs {
		for _, first := range append([]int{0, 4, 16}, far...) {
			noUnmap(t, x, pid, first)
		}
	}
	for pid := 1; pid <= 6; pid++ {
		for _, first := range append([]int{16, 1, 15}, far...) {
			noUnmap(t, x, pid, first)
		}
	}
	has(t, x, all()...)
}

func TestHas(t *testing.T) { // 26.1: a page is in an area from its first to its last one, of its process alone; other numbers are in none
	for first := range 16 {
		for count := 1; count <= 16-first; count++ {
			has(t, loaded(t, Area{3, first, count}), Area{3, first, count})
		}
	}
	x := loaded(t, Area{1, 0, 16}, Area{6, 0, 16})
	for range 2 {
		for _, n := range append([]int{16, 31, 32, 256}, far...) {
			for pid := range 8 {
				if x.Has(pid, n) {
					t.Errorf("Has(%d, %d)", pid, n)
				}
			}
		}
		for _, pid := range append([]int{2, 5}, noProcs...) {
			for page := range 16 {
				if x.Has(pid, page) {
					t.Errorf("Has(%d, %d)", pid, page)
				}
			}
		}
	}
}

func TestFork(t *testing.T) { // 26.2: child has those that parent has, in their order, behind all that are there; they are apart from then on
	for parent := 1; parent <= 6; parent++ {
		for child := 1; child <= 6; child++ {
			if parent == child {
				continue
			}
			other := 1
			for other == parent || other == child {
				other++
			}
			of := func(pid int) []Area { return []Area{{pid, 9, 2}, {pid, 0, 5}, {pid, 12, 1}, {pid, 7, 1}} }
			x := loaded(t, slices.Insert(of(parent), 2, Area{other, 1, 15})...)
			is(t, x.Fork(parent, child), api.OK)
			want := append(slices.Insert(of(parent), 2, Area{other, 1, 15}), of(child)...)
			has(t, x, want...)
			is(t, x.Fork(parent, child), api.ErrState)
			is(t, x.Fork(child, parent), api.ErrState)
			has(t, x, want...)
			unmaps(t, x, child, 0, 5)
			has(t, x, slices.Delete(slices.Clone(want), 6, 7)...)
			unmaps(t, x, parent, 9, 2)
			maps(t, x, child, 7, 0)
			has(t, x, append(slices.Delete(slices.Clone(want[1:]), 5, 6), Area{child, 0, 7})...)
		}
	}
}

// wrongForks wants that Fork tells what is no process's number, or one twice.
func wrongForks(t *testing.T, x *List) {
	t.Helper()
	for pid := 1; pid <= 6; pid++ {
		is(t, x.Fork(pid, pid), api.ErrArg)
		for _, wrong := range noProcs {
			is(t, x.Fork(pid, wrong), api.ErrArg)
			is(t, x.Fork(wrong, pid), api.ErrArg)
			is(t, x.Fork(wrong, wrong), api.ErrArg)
		}
	}
}

func TestForkWrong(t *testing.T) { // 26.2, R4: ErrArg, ahead of ErrState; ErrState, if child has an area, whether parent has one or not; nothing changes
	x := New()
	wrongForks(t, x)
	is(t, x.Fork(1, 2), api.OK)
	has(t, x)
	for first := range 16 {
		x := loaded(t, Area{2, first, 1})
		wrongForks(t, x)
		is(t, x.Fork(1, 2), api.ErrState)
		has(t, x, Area{2, first, 1})
		unmaps(t, x, 2, first, 1)
		is(t, x.Fork(1, 2), api.OK)
		has(t, x)
	}
	x = loaded(t, all()...)
	wrongForks(t, x)
	is(t, x.Fork(6, 1), api.ErrState)
	has(t, x, all()...)
}

func TestDrop(t *testing.T) { // 26.2: all areas of the process are gone: how many; those of others stay, in their order
	for pid := 1; pid <= 6; pid++ {
		x := loaded(t, all()...)
		for _, n := range noProcs {
			drops(t, x, n, 0)
		}
		has(t, x, all()...)
		drops(t, x, pid, 4)
		left := slices.DeleteFunc(all(), func(a Area) bool { return a.PID == pid })
		has(t, x, left...)
		drops(t, x, pid, 0)
		has(t, x, left...)
		maps(t, x, pid, 16, 0)
		has(t, x, append(left, Area{pid, 0, 16})...)
	}
	x := loaded(t, Area{3, 8, 8}, Area{1, 0, 1}, Area{3, 2, 4})
	drops(t, x, 3, 2)
	drops(t, x, 1, 1)
	has(t, x)
}

func TestAll(t *testing.T) { // 26.2: in the order in which they came, whichever process's they are and wherever they stand
	x := New()
	maps(t, x, 5, 6, 0)
	maps(t, x, 2, 3, 0)
	maps(t, x, 5, 1, 6)
	unmaps(t, x, 5, 0, 6)
	is(t, x.Fork(2, 1), api.OK)
	maps(t, x, 5, 2, 0)
	maps(t, x, 2, 1, 3)
	has(t, x, Area{2, 0, 3}, Area{5, 6, 1}, Area{1, 0, 3}, Area{5, 0, 2}, Area{2, 3, 1})
}

func TestLoad(t *testing.T) { // 26.2: these, in the order in which they are told
	for _, l := range [][]Area{nil, {}} {
		has(t, loaded(t, l...))
	}
	has(t, loaded(t, all()...), all()...)
	back := all()
	slices.Reverse(back)
	has(t, loaded(t, back...), back...)
	for _, a := range []Area{{1, 0, 1}, {1, 0, 16}, {6, 15, 1}, {6, 1, 15}} {
		has(t, loaded(t, a), a)
	}
	x := loaded(t, Area{2, 4, 4}, Area{1, 0, 16}, Area{2, 8, 1}, Area{2, 3, 1})
	maps(t, x, 2, 4, 9)
	noMap(t, x, 2, 1, api.ErrFull)
	has(t, x, Area{2, 4, 4}, Area{1, 0, 16}, Area{2, 8, 1}, Area{2, 3, 1}, Area{2, 9, 4})
}

// noLoad wants that Load tells ErrForm, and no list.
func noLoad(t *testing.T, l ...Area) {
	t.Helper()
	if x, e := Load(l); x != nil || e != api.ErrForm {
		t.Errorf("Load(%v): %v, %v", l[:min(len(l), 6)], x, e)
	}
}

func TestLoadWrong(t *testing.T) { // 26.2, R4: ErrForm, if one is no area
	right := Area{1, 6, 4}
	wrong := []Area{{}, {0, 1, 1}, {7, 1, 1}, {2, 16, 1}, {2, 16, 0}, {2, 15, 2}, {2, 0, 17}, {2, 1, 16}, {2, 8, 9}, {2, 0, 0}, {2, 15, 0}, {2, 1, -1}, {2, 5, -5},
		{2, -1, 2}, {2, -3, 8}, {2, math.MaxInt, math.MaxInt}, {2, math.MinInt, math.MinInt}, {2, 15, math.MaxInt - 14}, {2, 1, math.MaxInt}}
	for _, n := range far {
		wrong = append(wrong, Area{n, 1, 1}, Area{2, n, 1}, Area{2, 1, n})
	}
	for _, a := range wrong {
		noLoad(t, a)
		noLoad(t, right, a)
		noLoad(t, a, right)
	}
	has(t, loaded(t, right), right)
}

func TestLoadCommon(t *testing.T) { // 26.2, 26.3: ErrForm, if two of one process have a page in common, of all pairs of areas; of unlike ones they may
	var some []Area
	for first := range 16 {
		for count := 1; count <= 16-first; count++ {
			some = append(some, Area{4, first, count})
		}
	}
	for _, a := range some {
		for _, b := range some {
			common := false
			for page := range 16 {
				common = common || page >= a.First && page < a.First+a.Count && page >= b.First && page < b.First+b.Count
			}
			if x, e := Load([]Area{a, b}); common != (e == api.ErrForm) || common == (x != nil) {
				t.Errorf("Load(%v, %v): %v", a, b, e)
			}
			other := Area{5, b.First, b.Count}
			if x := loaded(t, a, other); !slices.Equal(x.All(), []Area{a, other}) {
				t.Errorf("Load(%v, %v): %v", a, other, x.All())
			}
		}
	}
	noLoad(t, Area{1, 0, 4}, Area{1, 8, 4}, Area{2, 0, 16}, Area{1, 7, 2})
	noLoad(t, Area{1, 0, 4}, Area{1, 8, 4}, Area{2, 0, 16}, Area{1, 3, 1})
}

func TestLoadTooMany(t *testing.T) { // 26.2: ErrForm, if a process has more than MaxAreas
	four := []Area{{1, 0, 1}, {1, 4, 1}, {2, 0, 1}, {1, 8, 1}, {1, 12, 1}}
	has(t, loaded(t, four...), four...)
	for _, a := range []Area{{1, 1, 1}, {1, 15, 1}, {1, 13, 3}} {
		noLoad(t, append(four, a)...)
		noLoad(t, append([]Area{a}, four...)...)
	}
	for i := range 6 {
		noLoad(t, append(all(), Area{i + 1, 15, 1})...)
		noLoad(t, append(all(), Area{i + 1, 3, 1})...)
	}
	noLoad(t, slices.Repeat(all(), 20000)...)
	var thin []Area
	for page := range 16 {
		thin = append(thin, Area{3, page, 1})
	}
	noLoad(t, thin...)
	noLoad(t, thin[:5]...)
	has(t, loaded(t, thin[:4]...), thin[:4]...)
}

func TestLoadOfAll(t *testing.T) { // 26.5: the same list, which goes on by itself
	x := New()
	maps(t, x, 1, 4, 0)
	maps(t, x, 2, 2, 0)
	maps(t, x, 1, 5, 4)
	unmaps(t, x, 1, 0, 4)
	maps(t, x, 1, 1, 0)
	is(t, x.Fork(1, 4), api.OK)
	want := []Area{{2, 0, 2}, {1, 4, 5}, {1, 0, 1}, {4, 4, 5}, {4, 0, 1}}
	y := loaded(t, x.All()...)
	has(t, y, want...)
	maps(t, y, 4, 3, 1)
	unmaps(t, y, 1, 4, 5)
	drops(t, y, 2, 1)
	has(t, y, Area{1, 0, 1}, Area{4, 4, 5}, Area{4, 0, 1}, Area{4, 1, 3})
	has(t, x, want...)
	has(t, loaded(t, y.All()...), y.All()...)
}

func TestMemory(t *testing.T) { // R3: what is handed in is not changed and not kept; what is answered is its caller's; spare room too
	want := []Area{{4, 0, 3}, {1, 1, 2}, {4, 8, 8}}
	room := append(slices.Clone(want), Area{9, 9, 9}, Area{9, 9, 9})
	x := loaded(t, room[:3]...)
	maps(t, x, 1, 1, 0)
	unmaps(t, x, 1, 0, 1)
	if !slices.Equal(room, append(slices.Clone(want), Area{9, 9, 9}, Area{9, 9, 9})) {
		t.Errorf("Load changed %v", room)
	}
	clear(room)
	has(t, x, want...)
	told, other := x.All(), x.All()
	clear(told[:cap(told)])
	has(t, x, want...)
	maps(t, x, 4, 1, 3)
	told = x.All()
	clear(told[:cap(told)])
	unmaps(t, x, 4, 0, 3)
	drops(t, x, 1, 1)
	if !slices.Equal(other, want) {
		t.Errorf("All: %v", other)
	}
	has(t, x, Area{4, 8, 8}, Area{4, 3, 1})
}

func TestZeroList(t *testing.T) { // a list that New did not make has no area either
	x := &List{}
	has(t, x)
	is(t, x.Fork(1, 2), api.OK)
	drops(t, x, 1, 0)
	maps(t, x, 1, 16, 0)
	has(t, x, Area{1, 0, 16})
}

func TestNilList(t *testing.T) { // empty: Map and Fork ErrState (ErrArg first), Unmap ErrNone; nothing; R4, R6
	var x *List
	for range 2 {
		has(t, x)
		wrongMaps(t, x)
		wrongForks(t, x)
		for pid := 1; pid <= 6; pid++ {
			for n := 1; n <= 16; n++ {
				noMap(t, x, pid, n, api.ErrState)
			}
			is(t, x.Fork(pid, pid%6+1), api.ErrState)
		}
		for _, n := range append([]int{1, 2, 6}, noProcs...) {
			drops(t, x, n, 0)
			noUnmap(t, x, n, n)
			if x.Has(n, n) || x.Has(1, n) {
				t.Errorf("Has of %d", n)
			}
		}
	}
}
