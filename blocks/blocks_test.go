package blocks

import (
	"math"
	"slices"
	"strings"
	"testing"

	"imago/api"
)

var wrong = []int{math.MinInt, math.MinInt32, -64, -1, 64, 65, 1 << 32, 1<<32 + 1, math.MaxInt}

func disk(t *testing.T, n int) *Disk {
	t.Helper()
	d, e := New(n)
	if d == nil || e != api.OK {
		t.Fatalf("New(%d): %v", n, e)
	}
	return d
}

// filled is a disk each of whose bytes differs from its neighbours', written n times.
func filled(t *testing.T, n int) *Disk {
	t.Helper()
	d := disk(t, n)
	for i := range n {
		var b [api.BlockSize]byte
		for at := range b {
			b[at] = byte(11*i + at + 1)
		}
		is(t, d.Write(i, string(b[:])), api.OK)
	}
	return d
}

func contents(t *testing.T, d *Disk) []string {
	t.Helper()
	var all []string
	for i := range d.Len() {
		s, e := d.Read(i)
		if e != api.OK || len(s) != api.BlockSize {
			t.Fatalf("Read(%d): %q, %v", i, s, e)
		}
		all = append(all, s)
	}
	return all
}

func is(t *testing.T, e, want api.Errno) {
	t.Helper()
	if e != want {
		t.Errorf("%v, not %v", e, want)
	}
}

func TestNew(t *testing.T) { // 3.1
	for n := 1; n <= api.MaxBlocks; n++ {
		d := disk(t, n)
		if d.Len() != n || d.Writes() != 0 {
			t.Errorf("New(%d): %d blocks, %d writes", n, d.Len(), d.Writes())
		}
		for _, s := range contents(t, d) {
			if s != strings.Repeat("\x00", api.BlockSize) {
				t.Errorf("a new block: %q", s)
			}
		}
		_, e := d.Read(n)
		is(t, e, api.ErrNone)
	}
	for _, n := range []int{math.MinInt, -1, 0, 65, 1 << 32, 1<<32 + 1, math.MaxInt} {
		if d, e := New(n); d != nil || e != api.ErrArg {
			t.Errorf("New(%d): %v, %v", n, d, e)
		}
	}
}

func TestWriteThenRead(t *testing.T) { // 3.1, 3.4, R5: any bytes, letters or not
	all := "\xff\x00\xc3\xa9\x80a\n\xfe"
	for size := 0; size <= api.BlockSize; size++ {
		for i := range 4 {
			d := filled(t, 4)
			before := contents(t, d)
			is(t, d.Write(i, all[:size]), api.OK)
			after := contents(t, d)
			if after[i] != all[:size]+before[i][size:] {
				t.Errorf("Write(%d, %q): %q", i, all[:size], after[i])
			}
			after[i] = before[i]
			if !slices.Equal(before, after) {
				t.Errorf("Write(%d, %q) changed others: %q", i, all[:size], after)
			}
			if d.Writes() != 5 || d.Len() != 4 {
				t.Errorf("Writes: %d, Len: %d", d.Writes(), d.Len())
			}
		}
	}
}

func TestWritesAreCounted(t *testing.T) { // 3.1: what changes nothing is a write too
	d := disk(t, 2)
	for n := range 20 {
		if d.Writes() != n {
			t.Errorf("Writes: %d of %d", d.Writes(), n)
		}
		is(t, d.Write(n%2, strings.Repeat("\x00", n%9)), api.OK)
		_, e := d.Read(0)
		is(t, e, api.OK)
		_, e = Gather(d, []int{1, 0}, 12)
		is(t, e, api.OK)
	}
}

func TestWrongWrites(t *testing.T) { // 3.1, R1 (the block comes first), R4
	d := filled(t, 4)
	before := contents(t, d)
	long := []string{"123456789", strings.Repeat("\u00e9", 5), strings.Repeat("a", 1<<20)}
	for _, s := range long {
		is(t, d.Write(0, s), api.ErrLong)
		is(t, d.Write(3, s), api.ErrLong)
	}
	for _, i := range append([]int{4, 5}, wrong...) {
		for _, s := range append([]string{"", "abc"}, long...) {
			is(t, d.Write(i, s), api.ErrNone)
		}
		if s, e := d.Read(i); s != "" || e != api.ErrNone {
			t.Errorf("Read(%d): %q, %v", i, s, e)
		}
	}
	if !slices.Equal(before, contents(t, d)) || d.Writes() != 4 {
		t.Errorf("changed: %q, %d writes", contents(t, d), d.Writes())
	}
}

func TestRuns(t *testing.T) { // 3.2
	for _, c := range []struct {
		l    []int
		want []Run
	}{
		{[]int{3, 4, 5, 9, 1, 2}, []Run{{3, 3}, {9, 1}, {1, 2}}}, // the chapter's example
		{nil, nil},
		{[]int{}, nil},
		{[]int{0}, []Run{{0, 1}}},
		{[]int{63}, []Run{{63, 1}}},
		{[]int{63, 0}, []Run{{63, 1}, {0, 1}}},
		{[]int{62, 63, 62, 63}, []Run{{62, 2}, {62, 2}}},
		{[]int{5, 5, 6, 6}, []Run{{5, 1}, {5, 2}, {6, 1}}},
		{[]int{3, 2, 1}, []Run{{3, 1}, {2, 1}, {1, 1}}},
		{[]int{1, 3, 5}, []Run{{1, 1}, {3, 1}, {5, 1}}},
	} {
		if r, e := Runs(c.l); !slices.Equal(r, c.want) || e != api.OK {
			t.Errorf("Runs(%v): %v, %v", c.l, r, e)
		}
	}
	for _, n := range wrong {
		for _, l := range [][]int{{n}, {n, 3, 4}, {3, n, 4}, {62, 63, n}} {
			if r, e := Runs(l); r != nil || e != api.ErrArg {
				t.Errorf("Runs(%v): %v, %v", l, r, e)
			}
		}
	}
}

func TestRunsAreFlatAndFew(t *testing.T) { // 3.3: of every list of up to five of the numbers 0 to 3 and 61 to 63
	numbers := []int{0, 1, 2, 3, 61, 62, 63}
	lists := [][]int{nil}
	for from := 0; len(lists[from]) < 5; from++ {
		for _, n := range numbers {
			lists = append(lists, append(slices.Clone(lists[from]), n))
		}
	}
	for _, l := range lists {
		r, e := Runs(l)
		is(t, e, api.OK)
		if back, e := Flat(r); !slices.Equal(back, l) || e != api.OK {
			t.Fatalf("Flat(Runs(%v)): %v, %v", l, back, e)
		}
		for i := 1; i < len(r); i++ {
			if r[i-1].From+r[i-1].Len == r[i].From {
				t.Fatalf("Runs(%v): %v", l, r)
			}
		}
	}
}

func TestFlat(t *testing.T) { // 3.2: runs need not be the fewest
	for _, c := range []struct {
		l    []Run
		want []int
	}{
		{nil, nil},
		{[]Run{}, nil},
		{[]Run{{0, 1}}, []int{0}},
		{[]Run{{63, 1}}, []int{63}},
		{[]Run{{60, 4}, {0, 2}}, []int{60, 61, 62, 63, 0, 1}},
		{[]Run{{7, 2}, {9, 1}, {9, 1}}, []int{7, 8, 9, 9}},
	} {
		if l, e := Flat(c.l); !slices.Equal(l, c.want) || e != api.OK {
			t.Errorf("Flat(%v): %v, %v", c.l, l, e)
		}
	}
	all, e := Flat([]Run{{0, 64}})
	is(t, e, api.OK)
	for i := range 64 {
		if len(all) != 64 || all[i] != i {
			t.Fatalf("Flat of all: %v", all)
		}
	}
}

func TestWrongRuns(t *testing.T) { // 3.2, R4
	bad := []Run{{60, 5}, {0, 65}, {63, 2}, {1, 0}, {0, 0}, {5, -1}, {-1, 1}, {-1, 2}, {-3, 10}, {64, 1}, {64, 0}, {64, -1}, {70, -8}}
	for _, n := range wrong {
		bad = append(bad, Run{n, 1}, Run{1, n}, Run{n, n}, Run{63, n}, Run{n, -n}, Run{n, math.MinInt}, Run{n, math.MaxInt})
	}
	for _, r := range bad {
		for _, l := range [][]Run{{r}, {{0, 1}, r}, {r, {0, 1}}} {
			if got, e := Flat(l); got != nil || e != api.ErrArg {
				t.Errorf("Flat(%v): %v, %v", l, got, e)
			}
		}
	}
}

func TestLongFlat(t *testing.T) { // 3.2: to 1000 numbers; a wrong run comes first, wherever it stands
	long := slices.Repeat([]Run{{0, 50}}, 20)
	if l, e := Flat(long); len(l) != 1000 || l[999] != 49 || e != api.OK {
		t.Errorf("Flat of 1000: %d, %v", len(l), e)
	}
	long = append(long, Run{63, 1})
	if l, e := Flat(long); l != nil || e != api.ErrLong {
		t.Errorf("Flat of 1001: %d, %v", len(l), e)
	}
	if l, e := Flat(append(long, Run{63, 2})); l != nil || e != api.ErrArg {
		t.Errorf("Flat of 1001 and a wrong run: %d, %v", len(l), e)
	}
	if l, e := Flat(slices.Repeat([]Run{{0, 1}}, 1000)); len(l) != 1000 || e != api.OK {
		t.Errorf("Flat of 1000 runs: %d, %v", len(l), e)
	}
	if l, e := Flat(slices.Repeat([]Run{{0, 64}}, 1<<17)); l != nil || e != api.ErrLong {
		t.Errorf("Flat of many: %d, %v", len(l), e)
	}
	numbers := slices.Repeat([]int{4, 5, 7}, 1000) // Runs has no such limit
	if r, e := Runs(numbers); len(r) != 2000 || e != api.OK {
		t.Errorf("Runs of many: %d, %v", len(r), e)
	}
}

func TestGather(t *testing.T) { // 3.2: any order, blocks more than once, every size
	d := filled(t, 5)
	c := contents(t, d)
	for _, l := range [][]int{nil, {}, {0}, {4}, {3, 0}, {2, 2, 2}, {4, 3, 2, 1, 0}, {0, 1, 2, 3, 4, 0, 1}} {
		whole := ""
		for _, i := range l {
			whole += c[i]
		}
		for size := range len(whole) + 1 {
			if s, e := Gather(d, l, size); s != whole[:size] || e != api.OK {
				t.Errorf("Gather(%v, %d): %q, %v", l, size, s, e)
			}
		}
		for _, size := range []int{math.MinInt, -8, -1, len(whole) + 1, len(whole) + 8, 1 << 40, math.MaxInt} {
			if s, e := Gather(d, l, size); s != "" || e != api.ErrArg {
				t.Errorf("Gather(%v, %d): %q, %v", l, size, s, e)
			}
		}
	}
	if !slices.Equal(c, contents(t, d)) {
		t.Errorf("changed: %q", contents(t, d))
	}
}

func TestGatherOfNoBlock(t *testing.T) { // 3.2, R1 (the list comes first), R4
	d := filled(t, 5)
	for _, n := range append([]int{5, 6}, wrong...) {
		for _, l := range [][]int{{n}, {n, 0}, {0, n}, {0, 4, n, 1}} {
			for _, size := range []int{math.MinInt, -1, 0, 1, 8, 9, 32, 33, math.MaxInt} {
				if s, e := Gather(d, l, size); s != "" || e != api.ErrNone {
					t.Errorf("Gather(%v, %d): %q, %v", l, size, s, e)
				}
			}
		}
	}
}

func TestListsAreNotShared(t *testing.T) { // R3: spare room too
	numbers := []int{3, 4, 9, 7, 8}
	runs, e := Runs(numbers[:3])
	is(t, e, api.OK)
	numbers[0] = 20
	if !slices.Equal(runs, []Run{{3, 2}, {9, 1}}) || !slices.Equal(numbers, []int{20, 4, 9, 7, 8}) {
		t.Errorf("Runs: %v of %v", runs, numbers)
	}
	given := []Run{{3, 2}, {9, 1}, {1, 1}}
	flat, e := Flat(given[:2])
	is(t, e, api.OK)
	given[0].From = 20
	again, e := Flat(given[1:2])
	is(t, e, api.OK)
	again[0] = 50
	if !slices.Equal(flat, []int{3, 4, 9}) || !slices.Equal(given, []Run{{20, 2}, {9, 1}, {1, 1}}) {
		t.Errorf("Flat: %v of %v", flat, given)
	}
}

func TestTextsStay(t *testing.T) { // R3: what was told doesn't follow the disk
	d := filled(t, 4)
	told, e := d.Read(3)
	is(t, e, api.OK)
	gathered, e := Gather(d, []int{3}, 8)
	is(t, e, api.OK)
	before := strings.Clone(told)
	is(t, d.Write(3, "zzzzzzzz"), api.OK)
	if told != before || gathered != before {
		t.Errorf("told: %q, %q", told, gathered)
	}
}

func TestDisksApart(t *testing.T) { // R6: what a disk tells hangs on its own calls
	a, b := filled(t, 2), filled(t, 2)
	before := contents(t, b)
	is(t, a.Write(0, "abc"), api.OK)
	if !slices.Equal(before, contents(t, b)) || b.Writes() != 2 || a.Writes() != 3 {
		t.Errorf("disks: %q, %d, %d", contents(t, b), a.Writes(), b.Writes())
	}
}

func TestNilDisk(t *testing.T) { // a nil disk has no blocks; R1, R4, R6
	for _, d := range []*Disk{nil, {}} {
		if d.Len() != 0 || d.Writes() != 0 {
			t.Errorf("Len: %d, Writes: %d", d.Len(), d.Writes())
		}
		for _, i := range append([]int{0, 1}, wrong...) {
			if s, e := d.Read(i); s != "" || e != api.ErrNone {
				t.Errorf("Read: %q, %v", s, e)
			}
			is(t, d.Write(i, ""), api.ErrNone)
			is(t, d.Write(i, "123456789"), api.ErrNone)
			if s, e := Gather(d, []int{i}, 0); s != "" || e != api.ErrNone {
				t.Errorf("Gather: %q, %v", s, e)
			}
		}
		if s, e := Gather(d, nil, 0); s != "" || e != api.OK {
			t.Errorf("Gather of nothing: %q, %v", s, e)
		}
		if s, e := Gather(d, nil, 1); s != "" || e != api.ErrArg {
			t.Errorf("Gather of nothing: %q, %v", s, e)
		}
		if d.Writes() != 0 {
			t.Errorf("Writes: %d", d.Writes())
		}
	}
}
