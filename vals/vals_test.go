package vals

import (
	"fmt"
	"math"
	"reflect"
	"slices"
	"strconv"
	"strings"
	"testing"

	"imago/api"
	"imago/types"
)

func number(n int) Value { return Value{Kind: types.Int, N: n} }

func text(s string) Value { return Value{Kind: types.Text, S: s} }

func list(kids ...Value) Value { return Value{Kind: types.List, Kids: kids} }

func record(kids ...Value) Value { return Value{Kind: types.Rec, Kids: kids} }

// typed is a text's type.
func typed(t *testing.T, s string) types.Type {
	t.Helper()
	x, e := types.Parse(s)
	if e != api.OK {
		t.Fatalf("Parse(%q): %v", s, e)
	}
	return x
}

// brief tells a value, but no deeper than that, and no more than some kids of each.
func brief(v Value, depth int) string {
	s := fmt.Sprintf("{%d %d %.20q", v.Kind, v.N, v.S)
	for i, kid := range v.Kids {
		if depth == 0 || i == 13 {
			return s + " ..}"
		}
		s += " " + brief(kid, depth-1)
	}
	return s + "}"
}

// fits wants that a value fits.
func fits(t *testing.T, v Value, of types.Type) {
	t.Helper()
	if !Fits(v, of) {
		t.Errorf("Fits(%s, %v): false", brief(v, 6), of)
	}
	if way := Misfit(v, of); way != nil {
		t.Errorf("Misfit(%s, %v): %v", brief(v, 6), of, way)
	}
	if got, e := At(v, of, nil); e != api.OK || !plainlySame(got, v) {
		t.Errorf("At(%s, %v): %s, %v", brief(v, 6), of, brief(got, 6), e)
	}
}

// misfits wants that a value does not fit, for what is at that way.
func misfits(t *testing.T, v Value, of types.Type, want ...int) {
	t.Helper()
	if Fits(v, of) {
		t.Errorf("Fits(%s, %v): true", brief(v, 6), of)
	}
	if way := Misfit(v, of); !slices.Equal(way, want) {
		t.Errorf("Misfit(%s, %v): %v, not %v", brief(v, 6), of, way, want)
	}
	for _, way := range [][]string{nil, {"nowhere"}} {
		if got, e := At(v, of, way); e != api.ErrForm || !reflect.DeepEqual(got, Value{}) {
			t.Errorf("At(%s, %v): %s, %v", brief(v, 6), of, brief(got, 6), e)
		}
	}
}

func TestExample(t *testing.T) { // the chapter's example
	of := typed(t, "r(a:i8,b:l2(t3))")
	fits(t, record(number(5), list(text("x"), text("y"))), of)
	misfits(t, record(number(256), list(text("x"), text("y"))), of, 0, 0)
}

func TestInts(t *testing.T) { // 16.1: from 0 to less than 2 to as many bits
	for _, of := range []struct {
		text string
		most int
	}{{"i8", 255}, {"i16", 65535}, {"i32", 4294967295}} {
		x := typed(t, of.text)
		for _, n := range []int{0, 1, 2, 127, 128, 254, 255, 256, 257, 32767, 32768, 65534, 65535, 65536, 65537, 1 << 24, math.MaxInt32, 1 << 31, 4294967294, 4294967295, 4294967296, 4294967297, 1 << 40, 1<<40 + 1, 1 << 62, math.MaxInt} {
			if n <= of.most {
				fits(t, number(n), x)
			} else {
				misfits(t, number(n), x, 0)
			}
		}
		for _, n := range []int{-1, -2, -128, -255, -256, -65536, math.MinInt32, -4294967295, -4294967296, math.MinInt + 1, math.MinInt} {
			misfits(t, number(n), x, 0)
		}
		misfits(t, Value{Kind: types.Int, S: "a"}, x, 0)
		misfits(t, Value{Kind: types.Int, Kids: []Value{number(0)}}, x, 0)
	}
}

func TestTexts(t *testing.T) { // 16.1: at most N bytes, any ones
	for _, most := range []int{0, 1, 2, 3, 16, 127, 128, 254, 255} {
		x := typed(t, "t"+strconv.Itoa(most))
		for n := range 300 {
			s := strings.Repeat("\xff", n)
			if n <= most {
				fits(t, text(s), x)
			} else {
				misfits(t, text(s), x, 0)
			}
		}
	}
	x := typed(t, "t3")
	for _, s := range []string{"", "a", "abc", "\x00\x00\x00", "\n", "ab ", "é", "\xc3", "aé"} {
		fits(t, text(s), x)
	}
	for _, s := range []string{"abcd", "éé", "abé", "\x00\x00\x00\x00", strings.Repeat("a", 1<<20)} { // bytes count, not letters
		misfits(t, text(s), x, 0)
	}
	for _, n := range []int{1, -1, 3, math.MinInt, math.MaxInt} {
		misfits(t, Value{Kind: types.Text, N: n}, x, 0)
	}
	misfits(t, Value{Kind: types.Text, Kids: []Value{text("")}}, x, 0)
}

// many is a List of that many empty texts.
func many(n int) Value {
	v := list()
	for range n {
		v.Kids = append(v.Kids, text(""))
	}
	return v
}

func TestLists(t *testing.T) { // 16.1: at most N Kids, all of which fit
	for _, most := range []int{0, 1, 2, 50, 95, 96} {
		x := typed(t, "l"+strconv.Itoa(most)+"(t1)")
		for n := range 100 {
			if n <= most {
				fits(t, many(n), x)
			} else {
				misfits(t, many(n), x, 0)
			}
			for _, at := range []int{0, n / 2, n - 1} {
				if n == 0 || n > most {
					continue
				}
				v := many(n)
				v.Kids[at] = text("ab")
				misfits(t, v, x, 0, at)
				v.Kids[at] = number(0)
				v.Kids[n-1] = number(0)
				misfits(t, v, x, 0, at)
			}
		}
	}
	x := typed(t, "l2(i8)")
	misfits(t, Value{Kind: types.List, N: 2}, x, 0)
	misfits(t, Value{Kind: types.List, N: -1, Kids: []Value{number(1)}}, x, 0)
	misfits(t, Value{Kind: types.List, S: "a"}, x, 0)
	misfits(t, list(make([]Value, 1000000)...), x, 0)
}

func TestRecs(t *testing.T) { // 16.1: as many Kids as fields, each of its field's type
	x := typed(t, "r(a:i8,b:t2,c:l1(i8))")
	a, b, c := number(1), text("b"), list(number(3))
	fits(t, record(a, b, c), x)
	fits(t, record(number(0), text(""), list()), x)
	misfits(t, record(), x, 0)
	misfits(t, record(a), x, 0)
	misfits(t, record(a, b), x, 0)
	misfits(t, record(a, b, c, a), x, 0)
	misfits(t, record(a, b, c, c), x, 0)
	misfits(t, record(b, a, c), x, 0, 0)
	misfits(t, record(a, c, b), x, 0, 1)
	misfits(t, record(a, b, number(3)), x, 0, 2)
	misfits(t, record(a, b, record(number(3))), x, 0, 2)
	misfits(t, record(a, b, list(number(300))), x, 0, 2, 0)
	misfits(t, record(a, b, list(list())), x, 0, 2, 0)
	misfits(t, Value{Kind: types.Rec, N: 1, Kids: []Value{a, b, c}}, x, 0)
	misfits(t, Value{Kind: types.Rec, N: math.MinInt, Kids: []Value{a, b, c}}, x, 0)
	misfits(t, Value{Kind: types.Rec, S: "\x00", Kids: []Value{a, b, c}}, x, 0)
}

func TestKinds(t *testing.T) { // 16.1: a value of another kind, or of none
	plain := map[string]Value{"i8": number(0), "t3": text(""), "l3(i8)": list(), "l1(l1(i8))": list(list()), "r(a:i8)": record(number(0)), "l1(r(a:i8))": list(record(number(0)))}
	for s, v := range plain {
		x := typed(t, s)
		fits(t, v, x)
		for _, kind := range []int{math.MinInt, -1, 0, 1, 2, 3, 4, 5, 256 + v.Kind, 1<<32 + v.Kind, math.MaxInt} {
			other := v
			other.Kind = kind
			if kind != v.Kind {
				misfits(t, other, x, 0)
				misfits(t, list(v, other), types.Type{Kind: types.List, N: 2, Kids: []types.Type{x}}, 0, 1)
			}
		}
		misfits(t, Value{}, x, 0)
	}
}

func TestFirstMisfit(t *testing.T) { // 16.1: each ahead of its kids, the first one
	x := typed(t, "r(a:i8,rows:l3(r(b:t3,c:l2(i16))),z:i8)")
	row := func(s string, n ...int) Value {
		c := list()
		for _, x := range n {
			c.Kids = append(c.Kids, number(x))
		}
		return record(text(s), c)
	}
	fits(t, record(number(1), list(row("abc", 1, 65535), row("", 0), row("x")), number(2)), x)
	misfits(t, record(number(1), list(row("abc", 1, 2), row("", 0), row("x", 1, 65536)), number(2)), x, 0, 1, 2, 1, 1)
	misfits(t, record(number(1), list(row("abc", 1, 2), row("", 0), row("x", -1, 65536)), number(256)), x, 0, 1, 2, 1, 0)
	misfits(t, record(number(1), list(row("abc", 1, 2), row("abcd", 65536), row("abcd")), number(256)), x, 0, 1, 1, 0)
	misfits(t, record(number(1), list(row("abc", 1, 2, 65536), row("abcd")), number(256)), x, 0, 1, 0, 1) // the list ahead of its element
	misfits(t, record(number(1), list(row("abcd"), row("abcd"), row(""), row("")), number(256)), x, 0, 1)
	misfits(t, record(number(256), list(row("abcd"), row("abcd"), row(""), row("")), number(256)), x, 0, 0)
	misfits(t, record(number(1), list(record(text("abcd"))), number(2)), x, 0, 1, 0)
	misfits(t, record(number(1), list(row("")), number(-1)), x, 0, 2)
	misfits(t, record(number(256), list(row("abcd")), number(256), number(1)), x, 0)
	deep := typed(t, "l1(r(a:l1(r(a:r(a:i8)))))")
	fits(t, list(record(list(record(record(number(255)))))), deep)
	misfits(t, list(record(list(record(record(number(256)))))), deep, 0, 0, 0, 0, 0, 0)
}

// wrongTypes are types that are not right, and what is wrong with each.
func wrongTypes() map[string]types.Type {
	long := types.Type{Kind: types.Int, N: 8}
	for range 6 {
		long = types.Type{Kind: types.List, N: 1, Kids: []types.Type{long}}
	}
	eight := types.Type{Kind: types.Int, N: 8}
	return map[string]types.Type{
		"none":       {},
		"bits":       {Kind: types.Int, N: 9},
		"no bits":    {Kind: types.Int},
		"less bits":  {Kind: types.Int, N: -8},
		"long text":  {Kind: types.Text, N: 256},
		"less text":  {Kind: types.Text, N: -1},
		"named":      {Kind: types.Int, N: 8, Names: []string{"a"}},
		"no element": {Kind: types.List, N: 8},
		"elements":   {Kind: types.List, N: 8, Kids: []types.Type{eight, eight}},
		"no fields":  {Kind: types.Rec},
		"no names":   {Kind: types.Rec, Kids: []types.Type{eight}},
		"no types":   {Kind: types.Rec, Names: []string{"a"}},
		"twice":      {Kind: types.Rec, Names: []string{"a", "a"}, Kids: []types.Type{eight, eight}},
		"within":     {Kind: types.List, N: 8, Kids: []types.Type{{Kind: types.Int, N: 7}}},
		"long":       long,
		"wide":       {Kind: types.Rec, Names: make([]string, 100), Kids: make([]types.Type, 100)},
		"kind":       {Kind: 5, N: 8},
	}
}

func TestWrongTypes(t *testing.T) { // 16.1 to 16.3: nothing fits a type that is not right, and nothing is a misfit
	values := []Value{{}, number(0), number(300), text(""), list(), list(number(0)), list(list(list(list(list(list(number(1))))))), record(), record(number(0)), record(number(0), number(0)), {Kind: 5}, {Kind: 99, N: -1, S: "x", Kids: make([]Value, 200)}}
	for name, x := range wrongTypes() {
		for _, v := range values {
			misfits(t, v, x)
		}
		want := types.Check(x)
		if want == api.OK || name == "long" && want != api.ErrLong || name == "none" && want != api.ErrForm {
			t.Errorf("%s: %v", name, want)
		}
		if v, e := Default(x); e != want || !reflect.DeepEqual(v, Value{}) {
			t.Errorf("Default of %s: %s, %v, not %v", name, brief(v, 6), e, want)
		}
	}
}

func TestDefault(t *testing.T) { // 16.2, 16.4
	for s, want := range map[string]Value{
		"i8": number(0), "i32": number(0), "t0": text(""), "t255": text(""), "l0(i8)": list(), "l96(r(a:i8))": list(),
		"r(a:i8)":                         record(number(0)),
		"r(a:i8,b:t3,c:l2(i8),d:i16)":     record(number(0), text(""), list(), number(0)),
		"r(a:r(b:r(c:i8,d:t1)),e:l1(t1))": record(record(record(number(0), text(""))), list()),
		"l1(l1(l1(l1(l1(i8)))))":          list(),
		"r(a:r(a:r(a:r(a:r(a:i8)))))":     record(record(record(record(record(number(0)))))),
	} {
		x := typed(t, s)
		v, e := Default(x)
		if e != api.OK || !plainlySame(v, want) {
			t.Errorf("Default(%s): %s, %v", s, brief(v, 6), e)
		}
		fits(t, v, x)
	}
}

// unlike are values no two of which are the same, such as fit some type and others.
func unlike() []Value {
	all := []Value{
		{}, {Kind: -1}, {Kind: 5}, {Kind: math.MaxInt}, {N: 1}, {N: -1}, {S: "a"}, {Kids: make([]Value, 1)}, {Kids: make([]Value, 2)},
		number(0), number(1), number(256), number(-1), number(math.MinInt), number(1 << 32), text(""), text("a"), text("b"), text("A"), text("a\x00"), text("\x00"), text("é"), text("e\u0301"), text("\xff"),
		list(), list(number(0)), list(number(0), number(0)), list(number(0), number(1)), list(number(1), number(0)), list(text("")), list(list()), list(list(), list()), list(list(list())), list(list(number(0))), list(list(number(1)), list()), list(list(), list(number(1))),
		record(), record(number(0)), record(number(0), number(0)), record(list()), list(record()), record(record()), record(list(number(0))),
		{Kind: types.Int, S: "a"}, {Kind: types.Text, N: 1}, {Kind: types.Text, S: "a", N: 1}, {Kind: types.List, S: "a"}, {Kind: types.List, N: 1}, {Kind: types.Int, Kids: []Value{{}}},
		{Kids: []Value{{Kids: []Value{{}, {}}}, {}}}, {Kids: []Value{{}, {Kids: []Value{{}, {}}}}}, {Kids: []Value{{Kids: []Value{{}}}, {Kids: []Value{{}}}}},
	}
	for n := 4; n < 20; n++ {
		all = append(all, chain(n, number(0)), chain(n, number(1)))
	}
	return all
}

// chain is a value that many deep, of Lists, which ends in what it is given.
func chain(depth int, end Value) Value {
	for range depth - 1 {
		end = list(end)
	}
	return end
}

func TestSame(t *testing.T) { // 16.2: any ones
	these, those := unlike(), unlike()
	for i, a := range these {
		for j, b := range those {
			if Same(a, b) != (i == j) || !Same(a, a) {
				t.Errorf("Same(%s, %s): %v", brief(a, 6), brief(b, 6), i != j)
			}
			if Same(Copy(a), b) != (i == j) {
				t.Errorf("Same(Copy(%s), %s): %v", brief(a, 6), brief(b, 6), i != j)
			}
		}
	}
	if empty := (Value{Kind: types.List, Kids: []Value{}}); !Same(empty, list()) || !Same(list(), empty) || !Same(record(empty, list()), record(list(), empty)) { // R2
		t.Error("Same: an empty list is no nil one")
	}
}

func TestEmptyLists(t *testing.T) { // R2, 16.1
	none := make([]Value, 0, 4)
	fits(t, Value{Kind: types.Int, N: 3, Kids: none}, typed(t, "i8"))
	fits(t, Value{Kind: types.Text, S: "a", Kids: none}, typed(t, "t1"))
	fits(t, Value{Kind: types.List, Kids: none}, typed(t, "l0(i8)"))
	misfits(t, Value{Kind: types.Rec, Kids: none}, typed(t, "r(a:i8)"), 0)
	x := types.Type{Kind: types.Int, N: 8, Names: []string{}, Kids: []types.Type{}}
	fits(t, number(255), x)
	if v, e := Default(x); e != api.OK || !plainlySame(v, number(0)) {
		t.Error(v, e)
	}
	if v, e := At(number(7), x, []string{}); e != api.OK || v.N != 7 {
		t.Error(v, e)
	}
}

func TestSize(t *testing.T) { // 16.2
	for _, of := range []struct {
		v    Value
		want int
	}{
		{Value{}, 1}, {number(5), 1}, {text("abc"), 1}, {list(), 1}, {list(Value{}), 2}, {record(number(0), text("")), 3}, {list(list(list(list()))), 4}, {many(96), 97},
		{record(list(number(1), number(2)), number(3), record(text("x"), list(record()))), 9}, {Value{Kind: types.Int, Kids: []Value{{Kids: make([]Value, 5)}, {}}}, 8},
		{chain(50, number(1)), 50}, {list(chain(7, number(1)), chain(9, many(3))), 1 + 7 + 12},
	} {
		if n := Size(of.v); n != of.want || Size(Copy(of.v)) != of.want {
			t.Errorf("Size(%s): %d, not %d", brief(of.v, 6), n, of.want)
		}
	}
}

func TestAt(t *testing.T) { // 16.3
	x := typed(t, "r(a:i8,rows:l12(r(b:t3,c:l2(i16))),p:r(a:r(z:i32)),e:l2(i8))")
	rows := list()
	for i := range 12 {
		rows.Kids = append(rows.Kids, record(text("r"+strconv.Itoa(i)), list(number(i), number(100*i))))
	}
	v := record(number(9), rows, record(record(number(77))), list())
	ways := map[string]Value{"": v, "a": number(9), "rows": rows, "p": v.Kids[2], "p a": v.Kids[2].Kids[0], "p a z": number(77), "e": list()}
	for i := range 12 {
		at := "rows " + strconv.Itoa(i)
		ways[at], ways[at+" b"], ways[at+" c"], ways[at+" c 0"], ways[at+" c 1"] = rows.Kids[i], text("r"+strconv.Itoa(i)), rows.Kids[i].Kids[1], number(i), number(100*i)
	}
	for way, want := range ways {
		if got, e := At(v, x, strings.Fields(way)); e != api.OK || !plainlySame(got, want) {
			t.Errorf("At(%q): %s, %v", way, brief(got, 6), e)
		}
	}
	nowhere := [][]string{
		{"b"}, {"c"}, {"z"}, {""}, {"A"}, {"a "}, {" a"}, {"ro"}, {"rowss"}, {"0"}, {"1"}, {"-1"}, {"a", "0"}, {"a", ""}, {"a", "a"}, {"rows", "12"}, {"rows", "13"}, {"rows", "99"}, {"rows", "-1"}, {"rows", "-0"}, {"rows", "+1"}, {"rows", "00"}, {"rows", "01"}, {"rows", "011"}, {"rows", "010"}, {"rows", ""}, {"rows", " 1"}, {"rows", "1 "}, {"rows", "1.0"}, {"rows", "0x1"}, {"rows", "1_0"}, {"rows", "1\x00"}, {"rows", "b"}, {"rows", "rows"}, {"rows", "\xd9\xa1"}, {"rows", "1", "a"}, {"rows", "1", "0"}, {"rows", "1", "1"}, {"rows", "1", "b", "0"}, {"rows", "1", "b", "b"}, {"rows", "1", "c", "2"}, {"rows", "1", "c", "c"}, {"rows", "1", "c", "0", "0"}, {"rows", "1", "c", "0", "c"}, {"rows", "12", "c"}, {"p", "z"}, {"p", "0"}, {"p", "a", "a"}, {"p", "a", "z", "z"}, {"e", "0"}, {"e", "e"}, {"rows", "4294967296"}, {"rows", "18446744073709551616"}, {"rows", "18446744073709551617"}, {"rows", "256"}, {"rows", strings.Repeat("0", 1<<20)}, {"rows", strings.Repeat("9", 1<<20)}, {strings.Repeat("a", 1<<20)}, {"nowhere", "a"}, make([]string, 1000000),
	}
	for _, way := range nowhere {
		if got, e := At(v, x, way); e != api.ErrNone || !reflect.DeepEqual(got, Value{}) {
			t.Errorf("At(%.100q): %s, %v", way, brief(got, 6), e)
		}
	}
	v.Kids[0].N = 256
	misfits(t, v, x, 0, 0) // ErrForm ahead of ErrNone
	for _, way := range nowhere[:10] {
		if got, e := At(v, x, way); e != api.ErrForm || !reflect.DeepEqual(got, Value{}) {
			t.Errorf("At(%q): %s, %v", way, brief(got, 6), e)
		}
	}
}

func TestGreatOnes(t *testing.T) { // 16.1, 16.2, the bound: as deep and as wide as they may come
	deep := chain(4000000, number(8))
	longer := list(deep)
	if !Same(deep, deep) || Same(deep, longer) || Same(longer, deep) || Size(deep) != 4000000 {
		t.Error("Same, Size of deep ones")
	}
	if c := Copy(deep); !Same(c, deep) || Size(c) != 4000000 || &c.Kids[0] == &deep.Kids[0] {
		t.Error("Copy of a deep one")
	}
	misfits(t, deep, typed(t, "l1(l1(l1(l1(l1(i8)))))"), 0, 0, 0, 0, 0, 0)
	broad := list(make([]Value, 1000000)...)
	c := Copy(broad)
	if !Same(c, broad) || Size(c) != 1000001 {
		t.Error("Copy of a wide one")
	}
	c.Kids[999999].S = "x"
	if Same(c, broad) || broad.Kids[999999].S != "" {
		t.Error("Same of unlike wide ones")
	}
}

func TestMisfitEnds(t *testing.T) { // a value that is within itself is no deeper than its type
	loop := list(number(8))
	loop.Kids[0] = loop
	misfitsAlone := func(s string, want ...int) {
		x := typed(t, s)
		if way := Misfit(loop, x); Fits(loop, x) || !slices.Equal(way, want) {
			t.Errorf("Misfit: %v, not %v", way, want)
		}
		if _, e := At(loop, x, []string{"0"}); e != api.ErrForm {
			t.Error(e)
		}
	}
	misfitsAlone("i8", 0)
	misfitsAlone("l0(i8)", 0)
	misfitsAlone("l1(l1(i8))", 0, 0, 0)
	misfitsAlone("l1(l1(l1(l1(l1(t3)))))", 0, 0, 0, 0, 0, 0)
}
