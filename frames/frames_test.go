package frames

import (
	"math"
	"strings"
	"testing"

	"imago/api"
)

var wrong = []int{math.MinInt, math.MinInt32, -64, -1, 64, 65, 1 << 32, math.MaxInt}

func memory(t *testing.T, n int) *Memory {
	t.Helper()
	m, e := New(n)
	if m == nil || e != api.OK {
		t.Fatalf("New(%d): %v", n, e)
	}
	return m
}

// filled is a memory each of whose bytes differs from its neighbours'.
func filled(t *testing.T, n int) *Memory {
	t.Helper()
	m := memory(t, n)
	for f := range n {
		for at := range api.FrameSize {
			if e := m.Set(f, at, byte(17*f+at+1)); e != api.OK {
				t.Fatalf("Set(%d, %d): %v", f, at, e)
			}
		}
	}
	return m
}

func pages(t *testing.T, m *Memory) []string {
	t.Helper()
	var all []string
	for f := range m.Len() {
		s, e := m.Page(f)
		if e != api.OK || len(s) != api.FrameSize {
			t.Fatalf("Page(%d): %q, %v", f, s, e)
		}
		all = append(all, s)
	}
	return all
}

// same wants all pages as they were, but for one (-1: none).
func same(t *testing.T, before, after []string, but int) {
	t.Helper()
	for f := range before {
		if f != but && before[f] != after[f] {
			t.Errorf("frame %d changed: %q, %q", f, before[f], after[f])
		}
	}
}

func is(t *testing.T, e, want api.Errno) {
	t.Helper()
	if e != want {
		t.Errorf("%v, not %v", e, want)
	}
}

func TestNew(t *testing.T) { // 2.1
	for n := 1; n <= api.MaxFrames; n++ {
		m := memory(t, n)
		if m.Len() != n {
			t.Errorf("Len: %d of %d", m.Len(), n)
		}
		for _, s := range pages(t, m) {
			if s != strings.Repeat("\x00", api.FrameSize) {
				t.Errorf("a new frame: %q", s)
			}
		}
		_, e := m.Get(n, 0)
		is(t, e, api.ErrNone)
	}
	for _, n := range []int{math.MinInt, -1, 0, 65, 1 << 32, 1<<32 + 1, math.MaxInt} {
		if m, e := New(n); m != nil || e != api.ErrArg {
			t.Errorf("New(%d): %v, %v", n, m, e)
		}
	}
}

func TestSetThenGet(t *testing.T) { // 2.1, 2.3, 2.4
	m := filled(t, 5)
	for f := range 5 {
		for at := range api.FrameSize {
			before := pages(t, m)
			is(t, m.Set(f, at, 0xff), api.OK)
			after := pages(t, m)
			same(t, before, after, f)
			if after[f] != before[f][:at]+"\xff"+before[f][at+1:] {
				t.Errorf("Set(%d, %d): %q", f, at, after[f])
			}
			if b, e := m.Get(f, at); b != 0xff || e != api.OK {
				t.Errorf("Get(%d, %d): %d, %v", f, at, b, e)
			}
		}
	}
}

func TestWrongPlaces(t *testing.T) { // 2.1, R1 (the frame comes first), R4
	m := filled(t, 4)
	before := pages(t, m)
	for _, f := range append([]int{4, 5}, wrong...) {
		for _, at := range append([]int{0, 15, 16}, wrong...) {
			b, e := m.Get(f, at)
			is(t, e, api.ErrNone)
			if b != 0 {
				t.Errorf("Get(%d, %d): %d", f, at, b)
			}
			is(t, m.Set(f, at, 99), api.ErrNone)
		}
	}
	for f := range 4 {
		for _, at := range append([]int{16, 17}, wrong...) {
			b, e := m.Get(f, at)
			is(t, e, api.ErrArg)
			if b != 0 {
				t.Errorf("Get(%d, %d): %d", f, at, b)
			}
			is(t, m.Set(f, at, 99), api.ErrArg)
		}
	}
	same(t, before, pages(t, m), -1)
}

func TestCopy(t *testing.T) { // 2.2, 2.3
	for from := range 4 {
		for to := range 4 {
			m := filled(t, 4)
			before := pages(t, m)
			is(t, m.Copy(from, to), api.OK)
			after := pages(t, m)
			same(t, before, after, to)
			if after[to] != before[from] {
				t.Errorf("Copy(%d, %d): %q", from, to, after[to])
			}
			if from == to {
				continue
			}
			is(t, m.Set(from, 3, 0), api.OK) // a copy doesn't follow what it was made of
			same(t, after, pages(t, m), from)
		}
	}
	m := filled(t, 4)
	before := pages(t, m)
	for _, f := range append([]int{4}, wrong...) {
		is(t, m.Copy(f, 0), api.ErrNone)
		is(t, m.Copy(0, f), api.ErrNone)
		is(t, m.Copy(f, f), api.ErrNone)
	}
	same(t, before, pages(t, m), -1)
}

func TestExample(t *testing.T) {
	m := memory(t, 3)
	is(t, m.Set(0, 1, 7), api.OK)
	is(t, m.Copy(0, 2), api.OK)
	if b, e := m.Get(2, 1); b != 7 || e != api.OK {
		t.Errorf("Get: %d, %v", b, e)
	}
}

func TestClear(t *testing.T) { // 2.2, 2.3
	for f := range 4 {
		m := filled(t, 4)
		before := pages(t, m)
		is(t, m.Clear(f), api.OK)
		after := pages(t, m)
		same(t, before, after, f)
		if after[f] != strings.Repeat("\x00", api.FrameSize) {
			t.Errorf("Clear(%d): %q", f, after[f])
		}
	}
	m := filled(t, 4)
	before := pages(t, m)
	for _, f := range append([]int{4}, wrong...) {
		is(t, m.Clear(f), api.ErrNone)
	}
	same(t, before, pages(t, m), -1)
}

func TestLoadThenPage(t *testing.T) { // 2.2, 2.3, 2.4, R5: any bytes, letters or not
	all := "\xff\xc3\xa9\x00\x80abcdefg\n\xfe\x01z"
	for size := 0; size <= api.FrameSize; size++ {
		for f := range 3 {
			m := filled(t, 3)
			before := pages(t, m)
			is(t, m.Load(f, all[:size]), api.OK)
			after := pages(t, m)
			same(t, before, after, f)
			if after[f] != all[:size]+strings.Repeat("\x00", api.FrameSize-size) {
				t.Errorf("Load(%d, %q): %q", f, all[:size], after[f])
			}
			for at := range size {
				if b, e := m.Get(f, at); b != all[at] || e != api.OK {
					t.Errorf("Get(%d, %d): %d, %v", f, at, b, e)
				}
			}
		}
	}
}

func TestWrongLoads(t *testing.T) { // 2.2, R1, R4
	m := filled(t, 4)
	before := pages(t, m)
	long := []string{strings.Repeat("a", 17), strings.Repeat("\u00e9", 9), strings.Repeat("a", 1<<20)}
	for _, s := range long {
		is(t, m.Load(0, s), api.ErrLong)
		is(t, m.Load(3, s), api.ErrLong)
	}
	for _, f := range append([]int{4}, wrong...) {
		for _, s := range append([]string{"", "abc"}, long...) {
			is(t, m.Load(f, s), api.ErrNone)
		}
		if s, e := m.Page(f); s != "" || e != api.ErrNone {
			t.Errorf("Page(%d): %q, %v", f, s, e)
		}
	}
	same(t, before, pages(t, m), -1)
}

func TestAnswersStay(t *testing.T) { // R3: a page that was told doesn't follow the frame
	m := memory(t, 1)
	is(t, m.Load(0, "abc"), api.OK)
	s, _ := m.Page(0)
	is(t, m.Set(0, 0, 'z'), api.OK)
	is(t, m.Clear(0), api.OK)
	if s != "abc"+strings.Repeat("\x00", 13) {
		t.Errorf("Page: %q", s)
	}
}

func TestMemoriesApart(t *testing.T) { // R6: what a memory tells hangs on its own calls
	a, b := filled(t, 2), filled(t, 2)
	before := pages(t, b)
	is(t, a.Set(0, 0, 99), api.OK)
	is(t, a.Copy(0, 1), api.OK)
	is(t, a.Clear(0), api.OK)
	same(t, before, pages(t, b), -1)
	same(t, pages(t, b), pages(t, b), -1)
}

func TestNilMemory(t *testing.T) { // a nil memory has no frames; R1, R4, R6
	for _, m := range []*Memory{nil, {}} {
		if m.Len() != 0 {
			t.Errorf("Len: %d", m.Len())
		}
		for _, f := range append([]int{0, 1}, wrong...) {
			if b, e := m.Get(f, 16); b != 0 || e != api.ErrNone {
				t.Errorf("Get: %d, %v", b, e)
			}
			if s, e := m.Page(f); s != "" || e != api.ErrNone {
				t.Errorf("Page: %q, %v", s, e)
			}
			is(t, m.Set(f, 0, 1), api.ErrNone)
			is(t, m.Copy(f, 0), api.ErrNone)
			is(t, m.Copy(0, f), api.ErrNone)
			is(t, m.Clear(f), api.ErrNone)
			is(t, m.Load(f, strings.Repeat("a", 17)), api.ErrNone)
		}
	}
}
