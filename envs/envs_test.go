package envs

import (
	"math"
	"slices"
	"testing"

	"imago/api"
)

// far are numbers that are no environment, no version and no kind of upcalls.
var far = []int{math.MinInt, -1, 0, 4, math.MaxInt}

func is(t *testing.T, e, want api.Errno) {
	t.Helper()
	if e != want {
		t.Errorf("%v, not %v", e, want)
	}
}

// runs wants that an environment is there, and runs a version.
func runs(t *testing.T, x *Table, env, version int) {
	t.Helper()
	if v, e := x.Version(env); v != version || e != api.OK {
		t.Errorf("Version(%d): %d, %v, not %d", env, v, e, version)
	}
}

// post posts upcalls of one kind, number by number.
func post(t *testing.T, x *Table, env, kind int, numbers ...int) {
	t.Helper()
	for _, n := range numbers {
		if e := x.Post(env, Upcall{kind, n}); e != api.OK {
			t.Fatalf("Post(%d, %d %d): %v", env, kind, n, e)
		}
	}
}

// take wants these upcalls, and then no more.
func take(t *testing.T, x *Table, env int, want ...Upcall) {
	t.Helper()
	for _, u := range want {
		if got, e := x.Take(env); got != u || e != api.OK {
			t.Errorf("Take(%d): %v, %v, not %v", env, got, e, u)
		}
	}
	if u, e := x.Take(env); u != (Upcall{}) || e != api.ErrState {
		t.Errorf("Take(%d): %v, %v", env, u, e)
	}
}

func lost(t *testing.T, x *Table, env, want int) {
	t.Helper()
	if n := x.Lost(env); n != want {
		t.Errorf("Lost(%d): %d, not %d", env, n, want)
	}
}

// notThere wants that an environment is not there, whatever else is wrong.
func notThere(t *testing.T, x *Table, env int) {
	t.Helper()
	if v, e := x.Version(env); v != 0 || e != api.ErrNone {
		t.Errorf("Version(%d): %d, %v", env, v, e)
	}
	is(t, x.Close(env), api.ErrNone)
	for _, n := range append([]int{1, 2, 3}, far...) {
		is(t, x.Change(env, n), api.ErrNone)
		is(t, x.Post(env, Upcall{Kind: n, N: 5}), api.ErrNone)
	}
	if u, e := x.Take(env); u != (Upcall{}) || e != api.ErrNone {
		t.Errorf("Take(%d): %v, %v", env, u, e)
	}
	lost(t, x, env, 0)
}

// three is a table in which all environments are there.
func three(t *testing.T) *Table {
	t.Helper()
	x := New()
	for env := 1; env <= api.MaxEnvs; env++ {
		is(t, x.Open(env, 1), api.OK)
	}
	return x
}

func TestConstants(t *testing.T) {
	if Most != 4 || Fault != 1 || SliceEnd != 2 || Message != 3 {
		t.Errorf("%d, %d, %d, %d", Most, Fault, SliceEnd, Message)
	}
}

func TestNew(t *testing.T) { // 13.1: none is there; two tables have nothing together
	x, y := New(), New()
	if x == nil || y == nil {
		t.Fatal("New: nothing")
	}
	for _, env := range append([]int{1, 2, 3}, far...) {
		notThere(t, x, env)
	}
	is(t, x.Open(2, 1), api.OK)
	notThere(t, y, 2)
	notThere(t, New(), 2)
}

func TestOpen(t *testing.T) { // 13.1: each environment, with each version, by itself
	for env := 1; env <= api.MaxEnvs; env++ {
		for version := 1; version <= 2; version++ {
			x := New()
			is(t, x.Open(env, version), api.OK)
			runs(t, x, env, version)
			take(t, x, env)
			lost(t, x, env, 0)
			for other := 1; other <= api.MaxEnvs; other++ {
				if other != env {
					notThere(t, x, other)
				}
			}
			is(t, x.Open(env, version), api.ErrSame)
			is(t, x.Open(env, 3-version), api.ErrSame)
			runs(t, x, env, version)
		}
	}
}

// opensWrong wants ErrArg ahead of all else.
func opensWrong(t *testing.T, x *Table) {
	t.Helper()
	for _, env := range far {
		for _, version := range append([]int{1, 2, 3}, far...) {
			is(t, x.Open(env, version), api.ErrArg)
		}
	}
	for env := 1; env <= api.MaxEnvs; env++ {
		for _, version := range append([]int{3}, far...) {
			is(t, x.Open(env, version), api.ErrArg)
		}
	}
}

func TestOpenWrong(t *testing.T) { // 13.1, R4: ErrArg, ErrSame; nothing changes
	x := New()
	opensWrong(t, x)
	for env := 1; env <= api.MaxEnvs; env++ {
		notThere(t, x, env)
	}
	is(t, x.Open(2, 2), api.OK)
	post(t, x, 2, Fault, 1, 2, 3, 4, 5)
	opensWrong(t, x)
	is(t, x.Open(2, 1), api.ErrSame)
	runs(t, x, 2, 2)
	lost(t, x, 2, 1)
	take(t, x, 2, Upcall{1, 2}, Upcall{1, 3}, Upcall{1, 4}, Upcall{1, 5})
}

func TestClose(t *testing.T) { // 13.1: one goes, the others stay; it may come again, without upcalls, and none lost
	for env := 1; env <= api.MaxEnvs; env++ {
		x := three(t)
		for other := 1; other <= api.MaxEnvs; other++ {
			post(t, x, other, SliceEnd, other, other, other, other, other, other)
		}
		is(t, x.Close(env), api.OK)
		notThere(t, x, env)
		is(t, x.Open(env, 2), api.OK)
		runs(t, x, env, 2)
		lost(t, x, env, 0)
		take(t, x, env)
		for other := 1; other <= api.MaxEnvs; other++ {
			if other == env {
				continue
			}
			runs(t, x, other, 1)
			lost(t, x, other, 2)
			u := Upcall{SliceEnd, other}
			take(t, x, other, u, u, u, u)
		}
	}
}

func TestChange(t *testing.T) { // 13.1: ErrNone, ErrArg, or that version, to and fro; upcalls stay
	x := three(t)
	post(t, x, 2, Fault, 1, 2, 3, 4, 5, 6)
	for _, version := range []int{2, 2, 1, 1, 2} {
		is(t, x.Change(2, version), api.OK)
		runs(t, x, 2, version)
		for _, wrong := range append([]int{3}, far...) {
			is(t, x.Change(2, wrong), api.ErrArg)
		}
		runs(t, x, 2, version)
		runs(t, x, 1, 1)
		runs(t, x, 3, 1)
	}
	lost(t, x, 2, 2)
	take(t, x, 2, Upcall{1, 3}, Upcall{1, 4}, Upcall{1, 5}, Upcall{1, 6})
	is(t, x.Close(3), api.OK)
	notThere(t, x, 3)
}

func TestPost(t *testing.T) { // 13.2: each kind, and numbers whatever they are
	for env := 1; env <= api.MaxEnvs; env++ {
		for kind := Fault; kind <= Message; kind++ {
			for _, n := range []int{math.MinInt, -65536, -1, 0, 1, 65535, 65536, math.MaxInt} {
				x := three(t)
				post(t, x, env, kind, n)
				for other := 1; other <= api.MaxEnvs; other++ {
					if other != env {
						take(t, x, other)
					}
				}
				take(t, x, env, Upcall{kind, n})
			}
		}
	}
}

func TestPostWrong(t *testing.T) { // 13.2, R4: no such kind; nothing waits, and nothing is lost
	x := three(t)
	for _, kind := range far {
		is(t, x.Post(1, Upcall{Kind: kind, N: 1}), api.ErrArg)
	}
	take(t, x, 1)
	post(t, x, 1, Message, 1, 2, 3, 4)
	for _, kind := range far {
		is(t, x.Post(1, Upcall{Kind: kind, N: 1}), api.ErrArg)
	}
	lost(t, x, 1, 0)
	take(t, x, 1, Upcall{3, 1}, Upcall{3, 2}, Upcall{3, 3}, Upcall{3, 4})
}

func TestFive(t *testing.T) { // the chapter's example: the first one is lost
	x := three(t)
	post(t, x, 1, Fault, 10)
	post(t, x, 1, SliceEnd, 11)
	post(t, x, 1, Message, 12)
	post(t, x, 1, Fault, 13)
	lost(t, x, 1, 0)
	post(t, x, 1, SliceEnd, 14)
	lost(t, x, 1, 1)
	take(t, x, 1, Upcall{2, 11}, Upcall{3, 12}, Upcall{1, 13}, Upcall{2, 14})
	lost(t, x, 1, 1)
	lost(t, x, 2, 0)
}

func TestLastFour(t *testing.T) { // 13.3: of any number the last four, in their order
	for n := range 30 {
		x := three(t)
		var want []Upcall
		for i := range n {
			u := Upcall{i%3 + 1, 100 + i}
			is(t, x.Post(3, u), api.OK)
			want = append(want, u)
		}
		first := max(0, n-4)
		lost(t, x, 3, first)
		take(t, x, 3, want[first:]...)
		lost(t, x, 3, first)
	}
}

func TestTurn(t *testing.T) { // 13.2, 13.4: each place has the turns of all numbers that leave it
	for _, wheel := range [][]int{{1}, {0}, {1, 0, 2}, {3, 3, 1, 2}, {1, 2, 0, 3, 0, 0, 2}} {
		place, most := 0, 50*len(wheel)
		for p := -most; p < most; p++ {
			if env := Turn(wheel, p); env != wheel[place] {
				t.Fatalf("Turn(%v, %d): %d, not %d", wheel, p, env, wheel[place])
			}
			place++
			if place == len(wheel) {
				place = 0
			}
		}
	}
}

func TestTurnEdges(t *testing.T) { // 13.2: what the words name, and the ends of numbers
	for _, c := range []struct {
		wheel   []int
		p, want int
	}{
		{[]int{1, 0, 2}, -1, 2}, {[]int{1, 0, 2}, 0, 1}, {[]int{1, 0, 2}, 1, 0}, {[]int{1, 0, 2}, 2, 2}, {[]int{1, 0, 2}, 3, 1},
		{[]int{1, 0, 2}, -2, 0}, {[]int{1, 0, 2}, -3, 1}, {[]int{1, 0, 2}, -4, 2},
		{[]int{1, 2}, math.MaxInt, 2}, {[]int{1, 2}, math.MinInt, 1}, {[]int{1, 2}, math.MinInt + 1, 2},
		{[]int{1, 2, 3}, math.MaxInt, 2}, {[]int{1, 2, 3}, math.MinInt, 2}, {[]int{3}, math.MinInt, 3}, {[]int{3}, math.MaxInt, 3},
		{nil, 0, 0}, {nil, -1, 0}, {nil, math.MinInt, 0}, {[]int{}, 5, 0}, {make([]int, 0, 3), 1, 0},
	} {
		if env := Turn(c.wheel, c.p); env != c.want {
			t.Errorf("Turn(%v, %d): %d, not %d", c.wheel, c.p, env, c.want)
		}
	}
}

func TestTurnKeepsTheWheel(t *testing.T) { // R3, R6: it is not changed, spare room too, and not kept
	room := []int{1, 0, 2, 3, 1}
	wheel := room[:3]
	for p := -7; p < 7; p++ {
		Turn(wheel, p)
	}
	if !slices.Equal(room, []int{1, 0, 2, 3, 1}) {
		t.Errorf("the wheel is %v", room)
	}
	wheel[1] = 3
	if Turn(wheel, 4) != 3 {
		t.Error("another wheel")
	}
}

func TestNil(t *testing.T) { // Open ErrState (ErrArg first), others ErrNone; 0
	var x *Table
	opensWrong(t, x)
	for env := 1; env <= api.MaxEnvs; env++ {
		is(t, x.Open(env, 1), api.ErrState)
		is(t, x.Open(env, 2), api.ErrState)
	}
	for _, env := range append([]int{1, 2, 3}, far...) {
		notThere(t, x, env)
	}
}

func TestZeroTable(t *testing.T) { // one that New didn't make has none too
	var x Table
	notThere(t, &x, 1)
	is(t, x.Open(1, 2), api.OK)
	runs(t, &x, 1, 2)
}

// plain is an environment in the plainest way: all that was posted and not taken; how many of them are too old is asked when it counts.
type plain struct {
	version, lost int
	posted        []Upcall
}

// step makes one call of a table and of the plain model, and tells whether both answer the same.
func step(x *Table, model map[int]*plain, next func(n int) int) bool {
	env := next(5)
	m := model[env]
	want := api.OK
	if m == nil {
		want = api.ErrNone
	}
	switch what := next(300); {
	case what < 2:
		delete(model, env)
		return x.Close(env) == want
	case what < 30:
		version := next(4)
		wrong := env < 1 || env > 3 || version < 1 || version > 2
		switch {
		case wrong:
			want = api.ErrArg
		case m != nil:
			want = api.ErrSame
		default:
			want = api.OK
			model[env] = &plain{version: version}
		}
		return x.Open(env, version) == want
	case what < 60:
		version := next(4)
		if m != nil && (version == 1 || version == 2) {
			m.version = version
		} else if m != nil {
			want = api.ErrArg
		}
		return x.Change(env, version) == want
	case what < 190:
		return postStep(x, m, env, Upcall{next(20) % 5, next(1000)}, want)
	}
	return takeStep(x, m, env, want)
}

func postStep(x *Table, m *plain, env int, u Upcall, want api.Errno) bool {
	if m != nil && (u.Kind < 1 || u.Kind > 3) {
		want = api.ErrArg
	} else if m != nil {
		m.posted = append(m.posted, u)
		if len(m.posted) > 4 {
			m.posted = m.posted[1:]
			m.lost++
		}
	}
	return x.Post(env, u) == want
}

func takeStep(x *Table, m *plain, env int, want api.Errno) bool {
	var first Upcall
	if m != nil && len(m.posted) == 0 {
		want = api.ErrState
	} else if m != nil {
		first, m.posted = m.posted[0], m.posted[1:]
	}
	u, e := x.Take(env)
	return u == first && e == want
}

func TestManySteps(t *testing.T) { // 13.1 to 13.3, R6: held against the plain model, over many calls
	x, model := New(), map[int]*plain{}
	seed := uint32(1)
	next := func(n int) int {
		seed = seed*1664525 + 1013904223
		return int((seed >> 16) % uint32(n))
	}
	full, none, gone := 0, 0, 0
	for i := range 100000 {
		if !step(x, model, next) {
			t.Fatalf("step %d differs", i)
		}
		for env := range 5 {
			m, want := model[env], api.OK
			if m == nil {
				m, want = &plain{}, api.ErrNone
				none++
			}
			if v, e := x.Version(env); v != m.version || e != want || x.Lost(env) != m.lost {
				t.Fatalf("step %d: environment %d: %d, %v, %d lost, not %v", i, env, v, e, x.Lost(env), *m)
			}
			if len(m.posted) == 4 {
				full++
			}
			gone = max(gone, m.lost)
		}
	}
	if full < 1000 || none < 1000 || gone < 10 {
		t.Errorf("too little was asked: %d, %d, %d", full, none, gone)
	}
}
