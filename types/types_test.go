package types

import (
	"fmt"
	"math"
	"reflect"
	"slices"
	"strconv"
	"strings"
	"testing"

	"imago/api"
)

func number(bits int) Type { return Type{Kind: Int, N: bits} }

func text(most int) Type { return Type{Kind: Text, N: most} }

func list(most int, of Type) Type { return Type{Kind: List, N: most, Kids: []Type{of}} }

// field is one of a Rec.
type field struct {
	name string
	of   Type
}

func record(fields ...field) Type {
	t := Type{Kind: Rec}
	for _, f := range fields {
		t.Names = append(t.Names, f.name)
		t.Kids = append(t.Kids, f.of)
	}
	return t
}

// wide is a Rec of that many fields of one type: a, b, c and so on.
func wide(fields int, of Type) Type {
	t := Type{Kind: Rec}
	for i := range fields {
		t.Names = append(t.Names, string(rune('a'+i%26))+strings.Repeat("x", i/26))
		t.Kids = append(t.Kids, of)
	}
	return t
}

// deep is a type that many deep: an Int within Lists.
func deep(depth int) Type {
	t := number(8)
	for range depth - 1 {
		t = list(1, t)
	}
	return t
}

// chain is a type that is no right one, that many deep, which ends in what it is given.
func chain(depth int, end Type) Type {
	for range depth - 1 {
		end = Type{Kids: []Type{end}}
	}
	return end
}

// far are numbers that are no Kind, and no N of any kind.
var far = []int{math.MinInt, math.MinInt32, -256, -8, -1, 256, 257, 65536, 1 << 32, 1<<32 + 8, 1 << 40, math.MaxInt}

// brief tells a type, but no deeper than that, and no more than some kids of each.
func brief(t Type, depth int) string {
	s := fmt.Sprint("{", t.Kind, " ", t.N, " ", t.Names[:min(len(t.Names), 13)])
	for i, kid := range t.Kids {
		if depth == 0 || i == 13 {
			return s + " ..}"
		}
		s += " " + brief(kid, depth-1)
	}
	return s + "}"
}

func checks(t *testing.T, x Type, want api.Errno) {
	t.Helper()
	if e := Check(x); e != want {
		t.Errorf("Check(%s): %v, not %v", brief(x, 8), e, want)
	}
	if want == api.OK {
		return
	}
	if s, e := Print(x); s != "" || e != want {
		t.Errorf("Print(%s): %q, %v, not %v", brief(x, 8), s, e, want)
	}
}

// isText wants that a type is right, and that this is its text, either way.
func isText(t *testing.T, x Type, s string) {
	t.Helper()
	checks(t, x, api.OK)
	if got, e := Print(x); got != s || e != api.OK {
		t.Errorf("Print(%v): %q, %v, not %q", x, got, e, s)
	}
	if got, e := Parse(s); !plainlySame(got, x) || e != api.OK {
		t.Errorf("Parse(%q): %v, %v, not %v", s, got, e, x)
	}
}

// isNoText wants that a text is no right type's.
func isNoText(t *testing.T, s string) {
	t.Helper()
	if got, e := Parse(s); !reflect.DeepEqual(got, Type{}) || e != api.ErrForm {
		t.Errorf("Parse(%.200q): %s, %v", s, brief(got, 8), e)
	}
}

func TestConstants(t *testing.T) {
	if got := []int{Int, Text, List, Rec, MaxDepth, MaxTypes}; !slices.Equal(got, []int{1, 2, 3, 4, 6, 100}) {
		t.Error(got)
	}
}

func TestExample(t *testing.T) { // the chapter's example
	isText(t, record(field{"pid", number(16)}, field{"regs", list(8, number(16))}), "r(pid:i16,regs:l8(i16))")
}

func TestRight(t *testing.T) { // 15.1, 15.3: each kind, with each N
	for _, bits := range []int{8, 16, 32} {
		isText(t, number(bits), "i"+strconv.Itoa(bits))
	}
	for n := range 256 {
		isText(t, text(n), "t"+strconv.Itoa(n))
	}
	for n := range 97 {
		isText(t, list(n, number(32)), "l"+strconv.Itoa(n)+"(i32)")
	}
	s := ""
	for n := 1; n <= 12; n++ {
		s += "," + string(rune('a'+n-1)) + ":t0"
		isText(t, wide(n, text(0)), "r("+s[1:]+")")
	}
	for n := 1; n <= 8; n++ {
		name := "zyxabcde"[:n]
		isText(t, record(field{name, number(8)}), "r("+name+":i8)")
	}
}

func TestRightMixed(t *testing.T) { // 15.1, 15.3
	isText(t, list(0, list(96, text(255))), "l0(l96(t255))")
	isText(t, record(field{"r", record(field{"r", record(field{"i", number(16)})})}), "r(r:r(r:r(i:i16)))") // one name within another's Rec
	isText(t, record(field{"a", list(2, record(field{"b", text(3)}, field{"a", number(8)}))}, field{"l", list(1, text(9))}, field{"b", number(32)}),
		"r(a:l2(r(b:t3,a:i8)),l:l1(t9),b:i32)")
	isText(t, record(field{"aa", number(8)}, field{"a", number(8)}, field{"b", number(8)}), "r(aa:i8,a:i8,b:i8)") // fields are in any order
	isText(t, record(field{"b", number(8)}, field{"a", number(8)}, field{"aa", number(8)}), "r(b:i8,a:i8,aa:i8)")
}

func TestSchema(t *testing.T) { // 15.1, 15.3: one that a system has
	s := "r(procs:l6(r(pid:i8,up:i8,prog:i8,ended:i8,status:i8,pc:i16,regs:l8(i16))),fds:l36(r(pid:i8,slot:i8,kind:i8,obj:i8,off:i8)),pipes:l3(r(id:i8,data:t16)))"
	x, e := Parse(s)
	if e != api.OK || x.Kids[0].N != 6 || !slices.Equal(x.Names, []string{"procs", "fds", "pipes"}) {
		t.Fatalf("Parse: %v, %v", x, e)
	}
	isText(t, x, s)
}

// wrongAlone are types that are not right by themselves.
func wrongAlone() []Type {
	var all []Type
	for _, n := range append([]int{0, 5, 6, 7, 8}, far...) {
		all = append(all, Type{Kind: n}, Type{Kind: n, N: 8}, Type{Kind: n, N: 8, Kids: []Type{number(8)}}, Type{Kind: n, Names: []string{"a"}, Kids: []Type{number(8)}})
	}
	for _, n := range append([]int{0, 1, 7, 9, 15, 17, 24, 31, 33, 64}, far...) {
		all = append(all, number(n))
	}
	for _, n := range far {
		all = append(all, text(n))
	}
	for _, n := range append([]int{97, 98, 255}, far...) {
		all = append(all, list(n, number(8)))
	}
	for _, n := range append([]int{1, 2, 8}, far...) {
		r := wide(2, number(8))
		r.N = n
		all = append(all, r)
	}
	all = append(all, list(3, number(8)), list(3, number(8)), list(0, number(8)))
	last := all[len(all)-3:]
	last[0].Kids, last[1].Kids, last[2].Kids = nil, []Type{number(8), number(8)}, []Type{}
	for _, x := range []Type{number(8), text(8), list(8, number(8))} {
		named := x
		named.Names = []string{"a"}
		all = append(all, named)
	}
	for _, x := range []Type{number(8), text(8)} {
		more := x
		more.Kids = []Type{number(8)}
		all = append(all, more)
	}
	return append(all, wrongRecs()...)
}

// wrongRecs are Recs whose fields are too few or too many, or whose names are wrong.
func wrongRecs() []Type {
	one := []Type{number(8)}
	all := []Type{
		{Kind: Rec}, {Kind: Rec, Names: []string{"a"}}, {Kind: Rec, Kids: one}, {Kind: Rec, Names: []string{"a", "b"}, Kids: one},
		{Kind: Rec, Names: []string{"a"}, Kids: []Type{number(8), number(8)}}, wide(13, number(8)), wide(14, text(0)), wide(90, number(8)),
		record(field{"a", number(8)}, field{"a", number(8)}), record(field{"a", number(8)}, field{"b", number(8)}, field{"a", text(2)}),
		record(field{"b", number(8)}, field{"a", number(8)}, field{"c", text(2)}, field{"c", number(8)}),
	}
	for _, name := range wrongNames {
		all = append(all, record(field{name, number(8)}), record(field{"a", number(8)}, field{name, number(8)}), record(field{name, number(8)}, field{"a", number(8)}))
	}
	return all
}

var wrongNames = []string{"", "abcdefghi", "abcdefghijklmnopqrstuvwxyz", "A", "Z", "aB", "a1", "1", "a b", " a", "a ", "a:", ":", "a,b", "a_b", "`", "{", "@", "[", "\x00", "a\n", "\xff", "é", "ä", "a-b", "a(", ")", "_"}

func TestWrong(t *testing.T) { // 15.1: by themselves, and within right ones
	for _, x := range wrongAlone() {
		checks(t, x, api.ErrForm)
		checks(t, list(2, x), api.ErrForm)
		checks(t, record(field{"a", number(8)}, field{"b", x}), api.ErrForm)
		checks(t, record(field{"a", x}, field{"b", number(8)}), api.ErrForm)
		checks(t, list(2, record(field{"b", list(2, x)})), api.ErrForm)
	}
	checks(t, Type{}, api.ErrForm)
	checks(t, list(1, list(1, list(1, list(1, list(1, number(9)))))), api.ErrForm)
}

func TestDepth(t *testing.T) { // 15.1: 6 are right, 7 are too many, of all kinds; ErrLong ahead of ErrForm
	checks(t, record(field{"a", number(8)}, field{"b", deep(6)}), api.ErrLong)
	checks(t, Type{Kind: 9, Kids: []Type{deep(6)}}, api.ErrLong)
	checks(t, Type{Kind: Int, N: 8, Kids: []Type{deep(6)}}, api.ErrLong) // its Kids are types, though it may have none
	x := text(3)
	for range 5 {
		x = record(field{"a", x})
	}
	isText(t, x, "r(a:r(a:r(a:r(a:r(a:t3)))))")
	checks(t, list(1, x), api.ErrLong)
	for n := 7; n < 40; n++ {
		checks(t, deep(n), api.ErrLong)
		checks(t, chain(n, number(8)), api.ErrLong)
		checks(t, chain(n, Type{}), api.ErrLong)
	}
	for n := 1; n <= 6; n++ {
		checks(t, deep(n), api.OK)
		checks(t, chain(n, Type{}), api.ErrForm)
	}
}

func TestCount(t *testing.T) { // 15.1: 100 are right, 101 are too many; ErrLong ahead of ErrForm
	x := wide(9, wide(10, number(8))) // 1 + 9 * 11
	checks(t, x, api.OK)
	more := wide(10, wide(10, number(8)))
	more.Kids[9] = number(8)
	checks(t, more, api.ErrLong)
	more.Kids[3].N = 5
	checks(t, more, api.ErrLong)
	x.Kids[8] = wide(11, number(8))
	checks(t, x, api.ErrLong)
	x.Kids[8] = wide(10, number(7))
	checks(t, x, api.ErrForm)
	for _, kind := range []int{0, Int, Text, List, Rec, 5} {
		checks(t, Type{Kind: kind, N: 8, Kids: make([]Type, 99)}, api.ErrForm)
		checks(t, Type{Kind: kind, N: 8, Kids: make([]Type, 100)}, api.ErrLong)
	}
	checks(t, wide(98, number(8)), api.ErrForm)
	checks(t, wide(99, number(8)), api.ErrForm)
	checks(t, wide(100, number(8)), api.ErrLong)
	checks(t, Type{Kind: Int, N: 8, Names: make([]string, 200)}, api.ErrForm) // names are no types
}

func TestCheckEnds(t *testing.T) { // the bound, and a type that is within itself
	checks(t, Type{Kind: Rec, Names: make([]string, 1000000), Kids: make([]Type, 1000000)}, api.ErrLong)
	checks(t, Type{Kind: Rec, Names: make([]string, 1000000), Kids: make([]Type, 50)}, api.ErrForm)
	checks(t, chain(1000000, number(8)), api.ErrLong)
	loop := list(1, number(8))
	loop.Kids[0] = loop
	if e := Check(loop); e != api.ErrLong {
		t.Error(e)
	}
	if s, e := Print(loop); s != "" || e != api.ErrLong {
		t.Error(s, e)
	}
	bush := number(8)
	for range 60 {
		bush = Type{Kind: Rec, Names: []string{"a", "b"}, Kids: []Type{bush, bush}}
	}
	if e := Check(bush); e != api.ErrLong {
		t.Error(e)
	}
}

func TestParseCount(t *testing.T) { // 15.1: what is too deep, or has too many types, is ErrForm of a text
	row := "r(a:i8,b:i8,c:i8,d:i8,e:i8,f:i8,g:i8,h:i8,i:i8,j:i8)"
	rows := func(n int) string {
		var fields []string
		for i := range n {
			fields = append(fields, string(rune('a'+i))+":"+row)
		}
		return strings.Join(fields, ",")
	}
	isText(t, wide(9, wide(10, number(8))), "r("+rows(9)+")")
	isNoText(t, "r("+rows(9)+",z:i8)")
	isNoText(t, "r("+rows(10)+")")
	isText(t, deep(6), "l1(l1(l1(l1(l1(i8)))))")
	isNoText(t, "l1(l1(l1(l1(l1(l1(i8))))))")
	isNoText(t, "l1(l1(l1(l1(l1(r(a:i8))))))")
	isNoText(t, "r(a:r(a:r(a:r(a:r(a:r(a:t3))))))")
}

var noTexts = []string{
	"", " ", "i", "t", "l", "r", "x", "I8", "T3", "i8 ", " i8", "i 8", "i8\n", "i8\x00", "i9", "i0", "i1", "i7", "i64", "i08", "i008", "i+8", "i-8", "i8.0", "i0x8", "i800", "i8000", "i88", "i3200", "i32i32", "i8,i8", "i8)", "(i8)", "i(8)", "i8()", "i18446744073709551624", "i4294967304", "i264", "i65544",
	"t-1", "t-0", "t+0", "t00", "t000", "t01", "t001", "t0255", "t256", "t257", "t300", "t999", "t1000", "t2550", "t4294967296", "t18446744073709551616", "t3()", "t3(i8)", "t3(", "tt", "t 3", "t3t3", "t\xb2",
	"l1", "l1i8", "l(i8)", "l1()", "l1(", "l1(i8", "l1i8)", "l1(i8,i8)", "l1(a:i8)", "l97(i8)", "l100(i8)", "l01(i8)", "l00(i8)", "l-1(i8)", "l960(i8)", "l1(i8))", "l1((i8))", "l1(i8)i8", "l1(i9)", "l1 (i8)", "l1( i8)", "l1(i8 )", "l1[i8]", "l1(l1(i8)", "l1(x)", "l96", "(l1(i8))", "l256(i8)", "l18446744073709551617(i8)",
	"r()", "r", "r(", "r)", "r(a)", "r(a:)", "r(:i8)", "r(a:i8", "r(a:i8,)", "r(,a:i8)", "r(a:i8,,b:i8)", "r(a:i8 b:i8)", "r(a:i8;b:i8)", "r(a:i8, b:i8)", "r(a :i8)", "r(a: i8)", "r( a:i8)", "r(a:i8 )", "r(a:i8))", "r(a:i8)i8", "r(a:i8)r(a:i8)", "r((a:i8))", "r(a::i8)", "r(a:b:i8)", "r(i8)", "r(a:a)", "r(a=i8)", "r(a,b:i8)", "r1(a:i8)", "r0(a:i8)", "r3(a:i8)", "r(a:i8,a:i8)", "r(a:i8,b:i8,a:t3)", "r(A:i8)", "r(aB:i8)", "r(a1:i8)", "r(a:i8,b)", "r(a:i8,b:)", "r(a:i8b:i8)", "r[a:i8]", "r(abcdefghi:i8)", "r(é:i8)", "r(a:i9)", "r(a:t256)", "r(a:r())", "r(a:i8,b:r(a:i8,a:i8))",
	"r(a:i8,b:i8,c:i8,d:i8,e:i8,f:i8,g:i8,h:i8,i:i8,j:i8,k:i8,l:i8,m:i8)", "r(a:i8,b:i8,c:i8,d:i8,e:i8,f:i8,g:i8,h:i8,i:i8,j:i8,k:i8,l:i8,)",
}

func TestNoTexts(t *testing.T) { // 15.1, 15.3
	for _, s := range noTexts {
		isNoText(t, s)
		isNoText(t, "l3("+s+")")
		if s != "" {
			isNoText(t, "i8"+s)
		}
	}
	for _, name := range wrongNames {
		isNoText(t, "r("+name+":i8)")
		isNoText(t, "r(a:i8,"+name+":i8)")
	}
	for n := range 1200 {
		s := strconv.Itoa(n)
		for _, of := range []struct {
			text  string
			right bool
		}{{"i" + s, n == 8 || n == 16 || n == 32}, {"t" + s, n <= 255}, {"l" + s + "(i8)", n <= 96}} {
			if _, e := Parse(of.text); (e == api.OK) != of.right {
				t.Errorf("Parse(%q): %v", of.text, e)
			}
			isNoText(t, of.text[:1]+"0"+of.text[1:])
		}
	}
}

func TestParseEnds(t *testing.T) { // the bound
	for _, s := range []string{"i", "t", "l", "r", "l1(", "r(a:", "8", "0", ",", ":", "a", "i8", "i8,", "l1(i8)", "(", ")", "\x00", "i8)", "a:i8,"} {
		long := strings.Repeat(s, 1000000)
		for _, ahead := range []string{"", "i", "t", "l", "l1(", "r(", "r(a:", "r(a:i8,"} {
			isNoText(t, ahead+long)
		}
	}
	isNoText(t, strings.Repeat("l1(", 10000000))
	isNoText(t, strings.Repeat("r(a:", 10000000))
	row := "i8"
	for range 5 { // as many types as 6 deep can have
		row = "r(a:" + row + ",b:" + row + ",c:" + row + ",d:" + row + ",e:" + row + ",f:" + row + ",g:" + row + ",h:" + row + ",i:" + row + ",j:" + row + ",k:" + row + ",l:" + row + ")"
	}
	isNoText(t, row)
}

func TestField(t *testing.T) { // 15.2
	x := record(field{"b", number(8)}, field{"a", record(field{"c", number(8)})}, field{"ab", list(1, number(8))})
	for name, want := range map[string]int{"b": 0, "a": 1, "ab": 2, "c": -1, "": -1, "A": -1, "abc": -1, "a ": -1, "0": -1, "b\x00": -1} {
		if n := Field(x, name); n != want {
			t.Errorf("Field(%q): %d, not %d", name, n, want)
		}
	}
	y := wide(12, text(1))
	for i, name := range y.Names {
		if n := Field(y, name); n != i {
			t.Errorf("Field(%q): %d", name, n)
		}
	}
	for _, kind := range append([]int{0, Int, Text, List, 5}, far...) {
		no := x
		no.Kind = kind
		if n := Field(no, "a"); n != -1 {
			t.Errorf("Field of kind %d: %d", kind, n)
		}
	}
	if Field(Type{}, "") != -1 || Field(Type{Kind: Rec}, "") != -1 || Field(Type{Kind: Rec, Names: []string{}}, "a") != -1 || Field(Type{Kind: List, Kids: []Type{x}}, "a") != -1 {
		t.Error("Field")
	}
}

func TestName(t *testing.T) { // 15.2
	for b := range 256 {
		letter := b >= 97 && b <= 122
		for _, s := range []string{string([]byte{byte(b)}), string([]byte{byte(b), 'q'}), string([]byte{'q', byte(b)}), string([]byte{'q', 'q', 'q', byte(b), 'q', 'q', 'q', 'q'}), "qqqqqqq" + string([]byte{byte(b)})} {
			if Name(s) != letter {
				t.Errorf("Name(%q): %v", s, !letter)
			}
		}
	}
	for n := range 300 {
		if Name(strings.Repeat("z", n)) != (n >= 1 && n <= 8) {
			t.Errorf("Name of %d letters", n)
		}
	}
	for _, s := range wrongNames {
		if Name(s) {
			t.Errorf("Name(%q)", s)
		}
	}
	if Name(strings.Repeat("a", 1<<24)) {
		t.Error("Name")
	}
}

// unlike are types no two of which are the same, right ones and others.
func unlike() []Type {
	all := []Type{
		{}, {Kind: -1}, {Kind: math.MaxInt}, {N: 1}, {N: -1}, {N: math.MinInt}, {Names: []string{"a"}}, {Names: []string{""}}, {Names: []string{"", ""}}, {Kids: make([]Type, 1)}, {Kids: make([]Type, 2)},
		number(8), number(16), number(9), text(8), text(16), list(8, number(8)), list(8, number(16)), list(16, number(8)), list(8, text(8)), list(8, list(8, number(8))),
		{Kind: List, N: 8}, {Kind: Rec}, {Kind: Int, N: 8, Names: []string{"a"}}, {Kind: Int, N: 8, Kids: []Type{{}}},
		record(field{"a", number(8)}), record(field{"b", number(8)}), record(field{"A", number(8)}), record(field{"a", text(8)}), record(field{"aa", number(8)}),
		record(field{"a", number(8)}, field{"b", number(8)}), record(field{"b", number(8)}, field{"a", number(8)}), record(field{"a", number(8)}, field{"a", number(8)}),
		record(field{"a", number(8)}, field{"b", number(16)}), record(field{"a", number(16)}, field{"b", number(8)}), record(field{"a", list(1, number(8))}, field{"b", number(8)}),
		{Kind: Rec, Names: []string{"a", "b"}, Kids: []Type{number(8)}}, {Kind: Rec, Names: []string{"a"}, Kids: []Type{number(8), number(8)}}, {Kind: Rec, Kids: []Type{number(8)}},
		{Kids: []Type{{Kids: []Type{{}, {}}}, {}}}, {Kids: []Type{{}, {Kids: []Type{{}, {}}}}}, {Kids: []Type{{Kids: []Type{{}}}, {Kids: []Type{{}}}}},
	}
	for n := 3; n < 20; n++ {
		all = append(all, chain(n, Type{}), chain(n, number(8)))
	}
	return all
}

func TestSame(t *testing.T) { // 15.2: any ones
	these, those := unlike(), unlike()
	for i, a := range these {
		for j, b := range those {
			if Same(a, b) != (i == j) || Same(a, a) != true {
				t.Errorf("Same(%v, %v): %v", a, b, i != j)
			}
		}
	}
}

func TestSameEmpty(t *testing.T) { // R2
	if !Same(Type{Kind: Int, N: 8, Names: []string{}, Kids: []Type{}}, number(8)) || !Same(number(8), Type{Kind: Int, N: 8, Names: []string{}, Kids: []Type{}}) {
		t.Error("Same: an empty list is no nil one")
	}
	isText(t, Type{Kind: Text, N: 3, Names: []string{}, Kids: make([]Type, 0, 5)}, "t3")
	isText(t, Type{Kind: List, N: 3, Names: make([]string, 0, 5), Kids: []Type{text(3)}}, "l3(t3)")
	checks(t, Type{Kind: Rec, Names: []string{}, Kids: []Type{}}, api.ErrForm)
}

func TestSameOfGreatOnes(t *testing.T) { // 15.2, the bound: as deep and as wide as they may come
	a := chain(4000000, number(8))
	if longer := (Type{Kids: []Type{a}}); !Same(a, a) || Same(a, longer) || Same(longer, a) {
		t.Error("Same of deep ones")
	}
	x, y := Type{Kids: make([]Type, 1000000)}, Type{Kids: make([]Type, 1000000)}
	if !Same(x, y) {
		t.Error("Same of wide ones")
	}
	y.Kids[999999].N = 1
	if Same(x, y) || Same(y, x) {
		t.Error("Same of unlike wide ones")
	}
}
