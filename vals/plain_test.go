package vals

import (
	"math/rand/v2"
	"reflect"
	"slices"
	"strconv"
	"testing"

	"imago/api"
	"imago/types"
)

// cleared is a value with nil in place of all empty lists.
func cleared(v Value) Value {
	c := Value{Kind: v.Kind, N: v.N, S: v.S}
	for _, kid := range v.Kids {
		c.Kids = append(c.Kids, cleared(kid))
	}
	return c
}

func plainlySame(a, b Value) bool { return reflect.DeepEqual(cleared(a), cleared(b)) }

// placed is a value with the way to it, and the type that it must fit.
type placed struct {
	v   Value
	t   types.Type
	way []int
}

// alone tells whether a value fits by itself, by the chapter's words.
func alone(v Value, t types.Type) bool {
	most := map[int]int{8: 255, 16: 65535, 32: 4294967295}
	kids := map[int][]int{types.Int: {0, 0}, types.Text: {0, 0}, types.List: {0, t.N}, types.Rec: {len(t.Kids), len(t.Kids)}}[t.Kind]
	n, s := 0, 0
	switch t.Kind {
	case types.Int:
		n = most[t.N]
	case types.Text:
		s = t.N
	}
	return v.Kind == t.Kind && v.N >= 0 && v.N <= n && len(v.S) <= s && len(v.Kids) >= kids[0] && len(v.Kids) <= kids[1]
}

// plainMisfit is the way to what does not fit a right type, by the chapter's words: of all that does not, what stands first.
func plainMisfit(v Value, t types.Type) []int {
	var wrong [][]int
	all := []placed{{v, t, []int{0}}}
	for len(all) > 0 {
		p := all[0]
		all = all[1:]
		if !alone(p.v, p.t) {
			wrong = append(wrong, p.way)
			continue
		}
		for i, kid := range p.v.Kids {
			of := p.t.Kids[0]
			if p.t.Kind == types.Rec {
				of = p.t.Kids[i]
			}
			all = append(all, placed{kid, of, append(slices.Clone(p.way), i)})
		}
	}
	if len(wrong) == 0 {
		return nil
	}
	return slices.MinFunc(wrong, slices.Compare[[]int])
}

// dice throws what tests are made of; the same at each run.
type dice struct{ *rand.Rand }

func throw(seed uint64) dice { return dice{rand.New(rand.NewPCG(seed, 16))} }

// typ is a right type, at most that deep.
func (d dice) typ(depth int) types.Type {
	kind := 1 + d.IntN(4)
	if depth == 1 {
		kind = 1 + d.IntN(2)
	}
	x := types.Type{Kind: kind}
	switch kind {
	case types.Int:
		x.N = 8 << d.IntN(3)
	case types.Text:
		x.N = d.IntN(6)
	case types.List:
		x.N = d.IntN(5)
		x.Kids = []types.Type{d.typ(depth - 1)}
	case types.Rec:
		for i := range 1 + d.IntN(3) {
			x.Names = append(x.Names, string(rune('a'+i)))
			x.Kids = append(x.Kids, d.typ(depth-1))
		}
	}
	return x
}

// value is one that fits a type.
func (d dice) value(t types.Type) Value {
	v := Value{Kind: t.Kind}
	switch t.Kind {
	case types.Int:
		v.N = d.IntN(1 << t.N)
	case types.Text:
		v.S = "abcdef"[:d.IntN(t.N+1)]
	case types.List:
		for range d.IntN(t.N + 1) {
			v.Kids = append(v.Kids, d.value(t.Kids[0]))
		}
	case types.Rec:
		for _, kid := range t.Kids {
			v.Kids = append(v.Kids, d.value(kid))
		}
	}
	return v
}

// broken is a value of which one thing or other is changed.
func (d dice) broken(v Value) Value {
	v = cleared(v)
	at := &v
	for len(at.Kids) > 0 && d.IntN(4) > 0 {
		at = &at.Kids[d.IntN(len(at.Kids))]
	}
	switch d.IntN(7) {
	case 0:
		at.Kind = d.IntN(6)
	case 1:
		at.N = []int{-1, 0, 1, 255, 256, 65535, 65536, 4294967295, 4294967296}[d.IntN(9)]
	case 2:
		at.S += "xyz"[:d.IntN(4)]
	case 3:
		at.Kids = append(at.Kids, d.value(d.typ(2)))
	case 4:
		at.Kids = at.Kids[:d.IntN(len(at.Kids)+1)]
	case 5:
		slices.Reverse(at.Kids)
	case 6:
		if len(at.Kids) > 0 {
			at.Kids = append(at.Kids, at.Kids[0])
		}
	}
	return v
}

func TestManyValues(t *testing.T) { // 16.1 to 16.5, R3, R6: held against the plain words
	d := throw(1)
	right, wrong := 0, 0
	for range 8000 {
		x := d.typ(1 + d.IntN(6))
		if types.Check(x) != api.OK {
			continue
		}
		v := d.value(x)
		for range 3 {
			before := cleared(v)
			want := plainMisfit(v, x)
			if len(want) == 0 {
				right++
				fits(t, v, x)
			} else {
				wrong++
				misfits(t, v, x, want...)
			}
			if c := Copy(v); !plainlySame(c, v) || !Same(c, v) || Size(v) != size(v) {
				t.Errorf("Copy(%s): %s", brief(v, 6), brief(c, 6))
			}
			if !plainlySame(v, before) {
				t.Errorf("%s became %s", brief(before, 6), brief(v, 6))
			}
			last := v
			v = d.broken(v)
			if Same(v, last) != plainlySame(v, last) || Same(last, v) != plainlySame(v, last) {
				t.Errorf("Same(%s, %s)", brief(v, 6), brief(last, 6))
			}
		}
		plain, e := Default(x)
		if e != api.OK {
			t.Errorf("Default(%v): %v", x, e)
		}
		fits(t, plain, x)
	}
	if right < 3000 || wrong < 3000 {
		t.Errorf("%d are right, %d wrong", right, wrong)
	}
}

// size is how many values there are.
func size(v Value) int {
	n := 1
	for _, kid := range v.Kids {
		n += size(kid)
	}
	return n
}

// leads wants that the ways to all values in one that fits lead there.
func leads(t *testing.T, top Value, of types.Type) {
	t.Helper()
	var walk func(v Value, x types.Type, way []string)
	walk = func(v Value, x types.Type, way []string) {
		if got, e := At(top, of, way); e != api.OK || !plainlySame(got, v) {
			t.Errorf("At(%s, %v, %q): %s, %v", brief(top, 6), of, way, brief(got, 6), e)
		}
		for i, kid := range v.Kids {
			if x.Kind == types.List {
				walk(kid, x.Kids[0], append(slices.Clone(way), strconv.Itoa(i)))
			} else {
				walk(kid, x.Kids[i], append(slices.Clone(way), x.Names[i]))
			}
		}
		for _, step := range []string{"zz", "", strconv.Itoa(len(v.Kids)), "00"} {
			if got, e := At(top, of, append(slices.Clone(way), step)); e != api.ErrNone || !reflect.DeepEqual(got, Value{}) {
				t.Errorf("At(%s, %v, %q %q): %s, %v", brief(top, 6), of, way, step, brief(got, 6), e)
			}
		}
	}
	walk(top, of, nil)
}

func TestManyWays(t *testing.T) { // 16.3
	d := throw(2)
	for range 600 {
		x := d.typ(1 + d.IntN(5))
		if types.Check(x) == api.OK {
			leads(t, d.value(x), x)
		}
	}
}

// mark writes a number of its own into all places of all lists in a value, spare room too, and tells the lists, each ahead of those within it.
func mark(v Value) [][]Value {
	all := [][]Value{}
	waiting := [][]Value{v.Kids}
	for len(waiting) > 0 {
		row := waiting[0]
		waiting = waiting[1:]
		if cap(row) > 0 {
			all = append(all, row[:cap(row)])
		}
		for _, kid := range row {
			waiting = append(waiting, kid.Kids)
		}
	}
	for i, row := range all {
		for j := range row {
			row[j] = Value{Kind: 1000 + i, N: j}
		}
	}
	return all
}

// unshared wants that no two lists in an answer share anything.
func unshared(t *testing.T, v Value) {
	t.Helper()
	for i, row := range mark(v) {
		for j := range row {
			if row[j].Kind != 1000+i || row[j].N != j {
				t.Fatal("lists of one answer share memory")
			}
		}
	}
}

// roomy is a value whose lists have spare room, the empty ones too, with something in it.
func roomy(v Value) Value {
	kids := make([]Value, 0, len(v.Kids)+2)
	for _, kid := range v.Kids {
		kids = append(kids, roomy(kid))
	}
	kids = append(kids, Value{Kind: 77}, Value{Kind: 78})
	v.Kids = kids[:len(v.Kids)]
	return v
}

// spared wants that what stands in the spare room of a value's lists is what roomy put there.
func spared(t *testing.T, v Value) {
	t.Helper()
	if room := v.Kids[len(v.Kids):cap(v.Kids)]; len(room) != 2 || room[0].Kind != 77 || room[1].Kind != 78 {
		t.Fatal("spare room was changed")
	}
	for _, kid := range v.Kids {
		spared(t, kid)
	}
}

func TestAnswersAreNew(t *testing.T) { // R3: of Copy, At and Default; spare room too
	d := throw(3)
	for range 1500 {
		x := d.typ(1 + d.IntN(5))
		if types.Check(x) != api.OK {
			continue
		}
		v := roomy(d.value(x))
		before := cleared(v)
		unshared(t, Copy(v))
		got, _ := At(v, x, nil)
		unshared(t, got)
		if len(v.Kids) > 0 {
			step := "0"
			if x.Kind == types.Rec {
				step = "a"
			}
			got, _ = At(v, x, []string{step})
			unshared(t, got)
		}
		one, _ := Default(x)
		other, _ := Default(x)
		plain := cleared(other)
		unshared(t, one)
		Fits(v, x)
		Misfit(v, x)
		Same(v, v)
		Size(v)
		spared(t, v)
		if !plainlySame(v, before) || !plainlySame(other, plain) {
			t.Fatal("an answer shares memory with something else")
		}
	}
}

func TestMisfitIsNew(t *testing.T) { // R3, R6: a way is its caller's, spare room too
	x := types.Type{Kind: types.List, N: 3, Kids: []types.Type{{Kind: types.List, N: 2, Kids: []types.Type{{Kind: types.Int, N: 8}}}}}
	v := list(list(), list(number(1), number(256)))
	for range 3 {
		way := Misfit(v, x)
		if !slices.Equal(way, []int{0, 1, 1}) {
			t.Fatal(way)
		}
		for i := range way[:cap(way)] {
			way[:cap(way)][i] = 99
		}
	}
}

func TestArgumentsStay(t *testing.T) { // R3: types and ways
	names := []string{"a", "b", "spare"}
	kids := []types.Type{{Kind: types.Int, N: 8}, {Kind: types.Text, N: 3}, {Kind: 77}}
	x := types.Type{Kind: types.Rec, Names: names[:2], Kids: kids[:2]}
	steps := []string{"b", "a"}
	v, e := Default(x)
	if e != api.OK || !Fits(v, x) || Misfit(v, x) != nil {
		t.Error(v, e)
	}
	if got, e := At(v, x, steps[:1]); e != api.OK || !Same(got, text("")) {
		t.Error(got, e)
	}
	if !slices.Equal(names, []string{"a", "b", "spare"}) || !slices.Equal(steps, []string{"b", "a"}) || kids[0].N != 8 || kids[1].N != 3 || kids[2].Kind != 77 || len(x.Kids) != 2 {
		t.Error(names, steps, kids)
	}
}
