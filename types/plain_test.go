package types

import (
	"math/rand/v2"
	"reflect"
	"slices"
	"strconv"
	"strings"
	"testing"

	"imago/api"
)

// placed is a type, and how deep it stands.
type placed struct {
	of    Type
	depth int
}

// flat are all types of one, itself first.
func flat(t Type) []placed {
	all := []placed{{t, 1}}
	for i := 0; i < len(all); i++ {
		for _, kid := range all[i].of.Kids {
			all = append(all, placed{kid, all[i].depth + 1})
		}
	}
	return all
}

// errnoBy is what Check tells of a type, by the chapter's words.
func errnoBy(t Type) api.Errno {
	all := flat(t)
	if len(all) > 100 || slices.ContainsFunc(all, func(p placed) bool { return p.depth > 6 }) {
		return api.ErrLong
	}
	for _, p := range all {
		x := p.of
		names := map[string]int{}
		for _, name := range x.Names {
			if strings.Trim(name, "abcdefghijklmnopqrstuvwxyz") != "" || len(name) == 0 || len(name) > 8 {
				return api.ErrForm
			}
			names[name]++
		}
		ok := false
		switch x.Kind {
		case 1:
			ok = slices.Contains([]int{8, 16, 32}, x.N) && len(x.Names)+len(x.Kids) == 0
		case 2:
			ok = x.N == int(uint8(x.N)) && len(x.Names)+len(x.Kids) == 0
		case 3:
			ok = x.N >= 0 && x.N < 97 && len(x.Names) == 0 && len(x.Kids) == 1
		case 4:
			ok = x.N == 0 && len(x.Kids) > 0 && len(x.Kids) < 13 && len(names) == len(x.Names) && len(names) == len(x.Kids)
		}
		if !ok {
			return api.ErrForm
		}
	}
	return api.OK
}

// plainText is a right type's text, by the chapter's words.
func plainText(t Type) string {
	s := string(" itlr"[t.Kind])
	if t.Kind != 4 {
		s += strconv.Itoa(t.N)
	}
	for i, kid := range t.Kids {
		s += string("(,"[min(i, 1)])
		if t.Kind == 4 {
			s += t.Names[i] + ":"
		}
		s += plainText(kid)
	}
	if len(t.Kids) > 0 {
		s += ")"
	}
	return s
}

// cleared is a type with nil in place of all empty lists.
func cleared(t Type) Type {
	c := Type{Kind: t.Kind, N: t.N}
	c.Names = append(c.Names, t.Names...)
	for _, kid := range t.Kids {
		c.Kids = append(c.Kids, cleared(kid))
	}
	return c
}

func plainlySame(a, b Type) bool { return reflect.DeepEqual(cleared(a), cleared(b)) }

// dice throws what tests are made of; the same at each run.
type dice struct{ *rand.Rand }

func throw(seed uint64) dice { return dice{rand.New(rand.NewPCG(seed, 15))} }

func (d dice) name() string {
	b := make([]byte, 1+d.IntN(8))
	for i := range b {
		b[i] = byte('a' + d.IntN(26))
	}
	return string(b)
}

// right is a type that is right, but may have too many types; at most that deep.
func (d dice) right(depth int) Type {
	kind := 1 + d.IntN(4)
	if depth == 1 {
		kind = 1 + d.IntN(2)
	}
	switch kind {
	case Int:
		return number(8 << d.IntN(3))
	case Text:
		return text(d.IntN(256))
	case List:
		return list(d.IntN(97), d.right(depth-1))
	}
	x := Type{Kind: Rec}
	for range 1 + d.IntN(12) {
		if name := d.name(); !slices.Contains(x.Names, name) {
			x.Names = append(x.Names, name)
			x.Kids = append(x.Kids, d.right(depth-1))
		}
	}
	return x
}

// broken is a type of which one thing or other is changed.
func (d dice) broken(t Type) Type {
	t = cleared(t)
	at := &t
	for len(at.Kids) > 0 && d.IntN(4) > 0 {
		at = &at.Kids[d.IntN(len(at.Kids))]
	}
	switch d.IntN(8) {
	case 0:
		at.Kind = d.IntN(6)
	case 1:
		at.N += d.IntN(3) - 1
	case 2:
		at.N = d.IntN(300) - 20
	case 3:
		at.Names = append(at.Names, d.name())
	case 4:
		at.Kids = append(at.Kids, d.right(1+d.IntN(6)))
	case 5:
		at.Names = at.Names[:d.IntN(len(at.Names)+1)]
	case 6:
		at.Kids = at.Kids[:d.IntN(len(at.Kids)+1)]
	case 7:
		if len(at.Names) > 0 {
			at.Names[d.IntN(len(at.Names))] = []string{"", "A", "abcdefghi", at.Names[0], "b", "a1"}[d.IntN(6)]
		}
	}
	return t
}

// holds wants that all that is told of a type is what the chapter's words tell.
func holds(t *testing.T, x Type) {
	t.Helper()
	before := cleared(x)
	want := errnoBy(x)
	checks(t, x, want)
	if want == api.OK {
		isText(t, x, plainText(x))
	}
	if !plainlySame(x, before) { // R3
		t.Errorf("%v became %v", before, x)
	}
}

func TestManyTypes(t *testing.T) { // 15.1, 15.3, R3, R6: held against the plain words
	d := throw(1)
	seen := map[api.Errno]int{}
	for range 6000 {
		x := d.right(1 + d.IntN(6))
		if len(flat(x)) > 150 && d.IntN(10) > 0 { // most of those that great are alike
			continue
		}
		for range 1 + d.IntN(3) {
			holds(t, x)
			seen[errnoBy(x)]++
			x = d.broken(x)
		}
		holds(t, x)
	}
	for _, e := range []api.Errno{api.OK, api.ErrLong, api.ErrForm} {
		if seen[e] < 300 {
			t.Errorf("%d of %v", seen[e], e)
		}
	}
}

func TestManyPairs(t *testing.T) { // 15.2: Same is held against the plain words
	d := throw(2)
	same := 0
	for range 6000 {
		a := d.right(1 + d.IntN(4))
		b := d.broken(a)
		if plainlySame(a, b) {
			same++
		}
		if Same(a, b) != plainlySame(a, b) || Same(b, a) != plainlySame(a, b) || !Same(b, cleared(b)) {
			t.Errorf("Same(%v, %v)", a, b)
		}
	}
	if same < 100 || same > 5000 {
		t.Errorf("%d are the same", same)
	}
}

// told wants that a text is read as a type with just that text, or as none.
func told(t *testing.T, s string) {
	t.Helper()
	x, e := Parse(s)
	if e != api.OK {
		isNoText(t, s)
	} else if errnoBy(x) != api.OK || plainText(x) != s {
		t.Errorf("Parse(%q): %v", s, x)
	}
}

const marks = "itlr0123689(),:abz AZ\x00-\xff"

func TestChangedTexts(t *testing.T) { // 15.3: no other text is read as the same
	d := throw(3)
	for range 3000 {
		s := plainText(d.right(1 + d.IntN(5)))
		if len(s) > 300 {
			continue
		}
		for range 20 {
			at, mark := d.IntN(len(s)+1), string(marks[d.IntN(len(marks))])
			told(t, s[:at]+mark+s[at:])
			told(t, s[:at])
			told(t, s[at:])
			if at < len(s) {
				told(t, s[:at]+s[at+1:])
				told(t, s[:at]+mark+s[at+1:])
				told(t, s[:at]+string(s[at])+s[at:])
			}
		}
	}
}

func TestThrownTexts(t *testing.T) { // 15.1, the bound: any bytes
	d := throw(4)
	for range 200000 {
		b := make([]byte, d.IntN(16))
		for i := range b {
			b[i] = marks[d.IntN(len(marks))]
		}
		told(t, string(b))
	}
}

// shortTexts are the texts of all right types of at most that many bytes, which is too few for a Rec with two letters in its names.
func shortTexts(most int) []string {
	var all []string
	for _, n := range []string{"8", "16", "32"} {
		all = append(all, "i"+n)
	}
	for n := range 256 {
		all = append(all, "t"+strconv.Itoa(n))
	}
	if most >= 6 {
		for _, kid := range shortTexts(most - 4) {
			for n := range 97 {
				all = append(all, "l"+strconv.Itoa(n)+"("+kid+")")
			}
			for name := byte('a'); name <= 'z'; name++ {
				all = append(all, "r("+string(name)+":"+kid+")")
			}
		}
	}
	return slices.DeleteFunc(all, func(s string) bool { return len(s) > most })
}

func TestShortTexts(t *testing.T) { // 15.1, 15.3: all texts of a few bytes
	const few, most = "il0168(),:art", 6
	want := map[string]int{}
	for _, s := range shortTexts(most + 1) {
		want[s]++
	}
	got := 0
	ask := func(s string) {
		_, e := Parse(s)
		if (e == api.OK) != (want[s] > 0) {
			t.Errorf("Parse(%q): %v", s, e)
		}
		if e == api.OK {
			got++
		}
	}
	ends := []string{""}
	for n := range most {
		longer := make([]string, 0, len(ends)*len(few))
		for _, s := range ends {
			ask(s)
			if n == most-1 {
				ask("l" + s + ")")
				ask("r(" + s)
			}
			for i := range len(few) {
				longer = append(longer, s+few[i:i+1])
			}
		}
		ends = longer
	}
	if got < 50 {
		t.Errorf("%d are right", got)
	}
}

// lists are all lists that stand in a type.
func lists(t Type) (names [][]string, kids [][]Type) {
	for _, p := range flat(t) {
		if cap(p.of.Names) > 0 {
			names = append(names, p.of.Names)
		}
		if cap(p.of.Kids) > 0 {
			kids = append(kids, p.of.Kids)
		}
	}
	return names, kids
}

func TestAnswersAreNew(t *testing.T) { // R3, R6: spare room too
	d := throw(5)
	for range 300 {
		s := plainText(d.right(4))
		if _, e := Parse(s); e != api.OK {
			continue
		}
		a, _ := Parse(s)
		b, _ := Parse(s)
		names, kids := lists(a)
		for i, l := range names {
			full := l[:cap(l)]
			for j := range full {
				full[j] = strconv.Itoa(i) + "." + strconv.Itoa(j)
			}
		}
		for i, l := range kids {
			full := l[:cap(l)]
			for j := range full {
				full[j] = Type{Kind: i, N: j}
			}
		}
		for i, l := range names { // what was written last stands in each, if no two share anything
			for j, name := range l[:cap(l)] {
				if name != strconv.Itoa(i)+"."+strconv.Itoa(j) {
					t.Fatalf("%q: names are shared", s)
				}
			}
		}
		for i, l := range kids {
			for j, kid := range l[:cap(l)] {
				if kid.Kind != i || kid.N != j {
					t.Fatalf("%q: kids are shared", s)
				}
			}
		}
		if plainText(b) != s {
			t.Errorf("%q became %v", s, b)
		}
	}
}

func TestArgumentsStay(t *testing.T) { // R3: what is handed in is not changed, spare room too
	names := []string{"a", "b", "spare", "more"}
	kids := []Type{number(8), list(2, text(3)), {Kind: 77}, {Kind: 78}}
	x := Type{Kind: Rec, Names: names[:2], Kids: kids[:2]}
	for range 2 {
		if e := Check(x); e != api.OK {
			t.Error(e)
		}
		if s, e := Print(x); s != "r(a:i8,b:l2(t3))" || e != api.OK {
			t.Error(s, e)
		}
		if !Same(x, x) || Field(x, "b") != 1 || Field(x, "spare") != -1 {
			t.Error("Same, Field")
		}
	}
	if !slices.Equal(names, []string{"a", "b", "spare", "more"}) || kids[2].Kind != 77 || kids[3].Kind != 78 || plainText(x) != "r(a:i8,b:l2(t3))" {
		t.Errorf("%v, %v", names, kids)
	}
}
