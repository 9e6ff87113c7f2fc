package lang

import (
	"fmt"
	"maps"
	"math"
	"reflect"
	"slices"
	"strings"
	"testing"

	"imago/api"
	"imago/types"
)

// typed is a text's type.
func typed(s string) types.Type {
	x, e := types.Parse(s)
	if e != api.OK {
		panic(s)
	}
	return x
}

// lines is a text of lines that are told between slashes.
func lines(s string) string { return strings.ReplaceAll(s, "/", "\n") }

// reads wants that a text is read as a script.
func reads(t *testing.T, text string, want ...Stmt) {
	t.Helper()
	if l, bad := Parse(text); !plainlySame(l, want) || bad != 0 {
		t.Errorf("Parse(%.200q): %v, %d, not %v", text, l, bad, want)
	}
}

// wrong wants that a line of a text is the first that is wrong.
func wrong(t *testing.T, text string, line int) {
	t.Helper()
	if l, bad := Parse(text); len(l) != 0 || bad != line { // R4
		t.Errorf("Parse(%.200q): %v, %d, not %d", text, l, bad, line)
	}
}

// isText wants that a script has that text, and is read from it.
func isText(t *testing.T, text string, l ...Stmt) {
	t.Helper()
	if s, e := Print(l); s != text || e != api.OK {
		t.Errorf("Print(%v): %.200q, %v, not %.200q", l, s, e, text)
	}
	reads(t, text, l...)
}

// refuses wants that a script has no text.
func refuses(t *testing.T, want api.Errno, l ...Stmt) {
	t.Helper()
	if s, e := Print(l); s != "" || e != want {
		t.Errorf("Print: %.200q, %v, not %v", s, e, want)
	}
}

// one is a statement of each op, whose line has no more words than it must have.
func one() map[string]Stmt {
	return map[string]Stmt{
		"rename a b":          {Op: Rename, Name: "a", To: "b"},
		"drop a":              {Op: Drop, Name: "a"},
		"add a l3(i8) 7":      {Op: Add, Name: "a", Type: typed("l3(i8)"), N: 7},
		"widen a 32":          {Op: Widen, Name: "a", N: 32},
		"share rows to key a": {Op: Share, Name: "rows", To: "to", Names: []string{"key", "a"}},
		"sort rows a":         {Op: Sort, Name: "rows", Names: []string{"a"}},
		"nest pos x":          {Op: Nest, Name: "pos", Names: []string{"x"}},
		"lift pos":            {Op: Lift, Name: "pos"},
	}
}

func drop(name string) Stmt { return Stmt{Op: Drop, Name: name} }

func each(name string, body ...Stmt) Stmt { return Stmt{Op: Each, Name: name, Body: body} }

// deep is an Each that many deep, around what it is given.
func deep(depth int, body ...Stmt) Stmt {
	for range depth - 1 {
		body = []Stmt{each("a", body...)}
	}
	return each("a", body...)
}

// many is that many statements.
func many(n int) []Stmt {
	l := make([]Stmt, n)
	for i := range l {
		l[i] = drop("a")
	}
	return l
}

func TestConstants(t *testing.T) {
	if got := []int{Rename, Drop, Add, Widen, Each, Share, Sort, Nest, Lift, Most, MaxDepth}; !slices.Equal(got, []int{1, 2, 3, 4, 5, 6, 7, 8, 9, 60, 4}) {
		t.Error(got)
	}
}

func TestExample(t *testing.T) { // the chapter's example
	isText(t, lines("each rows/  widen pid 32/end/"), each("rows", Stmt{Op: Widen, Name: "pid", N: 32}))
	reads(t, lines("each rows/widen pid 32/end"), each("rows", Stmt{Op: Widen, Name: "pid", N: 32}))
}

func TestOps(t *testing.T) { // 18.1 to 18.3: each op by itself, and within an each
	all, text := []Stmt{}, ""
	for line, s := range one() {
		isText(t, line+"\n", s)
		isText(t, "each a\n  "+line+"\nend\n", each("a", s))
		all, text = append(all, s), text+line+"\n"
	}
	isText(t, text, all...)
	isText(t, "", all[:0]...)
	isText(t, lines("each a/end/"), each("a"))
	isText(t, lines("each a/end/each b/end/"), each("a"), each("b"))
}

func TestNames(t *testing.T) { // 18.1, 18.2: Names are as many as there are, any ones
	isText(t, "share a b c d e f\n", Stmt{Op: Share, Name: "a", To: "b", Names: []string{"c", "d", "e", "f"}})
	isText(t, "share a a a a a\n", Stmt{Op: Share, Name: "a", To: "a", Names: []string{"a", "a", "a"}})
	isText(t, "sort a a b a\n", Stmt{Op: Sort, Name: "a", Names: []string{"a", "b", "a"}})
	isText(t, "rename a a\n", Stmt{Op: Rename, Name: "a", To: "a"})
	names := []string{}
	for i := range 3000 {
		names = append(names, strings.Repeat(string(rune('a'+i%26)), 1+i%8))
		if i < 20 || i == 2999 {
			isText(t, "nest pos "+strings.Join(names, " ")+"\n", Stmt{Op: Nest, Name: "pos", Names: names})
			isText(t, "share pos to key "+strings.Join(names, " ")+"\n", Stmt{Op: Share, Name: "pos", To: "to", Names: append([]string{"key"}, names...)})
		}
	}
	for _, word := range []string{"rename", "drop", "add", "widen", "each", "share", "sort", "nest", "lift", "end"} { // words of the language are names too
		isText(t, "drop "+word+"\n", drop(word))
		isText(t, "rename "+word+" "+word+"\n", Stmt{Op: Rename, Name: word, To: word})
		isText(t, "sort "+word+" "+word+" end\n", Stmt{Op: Sort, Name: word, Names: []string{word, "end"}})
		isText(t, "each "+word+"\nend\n", each(word))
	}
}

func TestTypes(t *testing.T) { // 18.1, 18.2: TYPE is a type's text
	for _, s := range []string{"i8", "i16", "i32", "t0", "t255", "l0(i8)", "l96(l96(t3))", "r(a:i8)", "r(pid:i16,regs:l8(i16))", "r(a:r(a:r(a:r(a:r(a:i8)))))"} {
		isText(t, "add a "+s+" 0\n", Stmt{Op: Add, Name: "a", Type: typed(s)})
	}
	for _, s := range []string{"i", "i9", "i08", "t256", "t", "l97(i8)", "l1()", "r()", "r(a:i8,a:i8)", "r(a:i8", "(i8)", "x", "I8", "8", "0", "-", "l1(l1(l1(l1(l1(l1(i8))))))", "r(a:i8,b:i9)", "i8\xff", "i8\t", "i8,"} {
		wrong(t, "add a "+s+" 0", 1)
	}
	wrong(t, "add a l1( i8) 0", 1) // a type's text is one word
	wrong(t, "add a r(a:i8, b:i8) 0", 1)
	wrong(t, "add a l1(i8;) 0", 1)
}

func TestNumbers(t *testing.T) { // 18.1, 18.2: 1 to 10 digits, at most 4294967295
	for word, n := range map[string]int{"0": 0, "1": 1, "9": 9, "10": 10, "65536": 65536, "999999999": 999999999, "1000000000": 1000000000, "2147483648": 1 << 31, "4294967294": 4294967294, "4294967295": 4294967295} {
		isText(t, "widen a "+word+"\n", Stmt{Op: Widen, Name: "a", N: n})
		isText(t, "add a i8 "+word+"\n", Stmt{Op: Add, Name: "a", Type: typed("i8"), N: n})
	}
	for word, n := range map[string]int{"00": 0, "0000000000": 0, "01": 1, "0000000001": 1, "007": 7, "0429496729": 429496729} { // noughts ahead are digits
		reads(t, "widen a "+word, Stmt{Op: Widen, Name: "a", N: n})
		reads(t, "add a t3 "+word, Stmt{Op: Add, Name: "a", Type: typed("t3"), N: n})
	}
	for _, word := range []string{"4294967296", "4294967297", "4294967300", "5000000000", "9999999999", "00000000000", "00000000001", "04294967295", "10000000000", "18446744073709551616", "18446744073709551617", strings.Repeat("0", 100), strings.Repeat("9", 100),
		"-1", "-0", "+1", "+0", "1.", "1.0", ".1", "1e1", "0x1", "0b1", "0o1", "1_0", "1,0", "a", "x1", "1x", "/", ":", "0/", "0:", "\xb1", "\u0661", "1\x00", "''"} {
		wrong(t, "widen a "+word, 1)
		wrong(t, "add a i8 "+word, 1)
	}
}

func TestSpaces(t *testing.T) { // 18.1: words between spaces (32) alone, up to a ; ; lines between 10s
	for _, text := range []string{"", "\n", "\n\n\n", " ", "   \n  ", ";", "; drop a", ";\n;;\n ;", ";\x00\xff\r\t", "  ;\n"} {
		reads(t, text)
	}
	for _, text := range []string{"drop a", " drop a", "drop a ", "  drop   a  ", "drop a\n", "\ndrop a\n\n", "drop a;", "drop a;b", "drop a ; b c", "drop a ;;", "drop a;\t\xff", "; drop b\ndrop a\n; drop b", "drop a\n;end", "drop a\n   "} {
		reads(t, text, drop("a"))
	}
	reads(t, "drop a\n\n  ; x\ndrop b", drop("a"), drop("b"))
	for _, text := range []string{"drop\ta", "\tdrop a", "drop a\t", "drop a\r", "\r", "\t", "\x00", "\v", "drop\u00a0a", "drop a\u0085", "\ufeffdrop a", "drop a \r", "drop; a", "dr;op a", "drop a,", "drop,a", "drop \xff", "drop a\x00"} {
		wrong(t, text, 1)
	}
	wrong(t, "drop a\r\ndrop b\r\n", 1)
	wrong(t, "drop a\n\n\x80", 3)
	wrong(t, "drop a\n;\ndrop a b ; c\n", 3)
}

func TestWords(t *testing.T) { // 18.1: a wrong word, too few or too many
	other := []string{"A", "a1", "abcdefghi", "1a", "-", "a,b", "a.", "é", "\xff", "a\t", "a:", "_", "`", "{", "Rows"}
	for line := range one() {
		words := strings.Split(line, " ")
		reads(t, strings.Join(words, "   "), one()[line])
		for n := 1; n < len(words); n++ { // too few
			wrong(t, "\n"+strings.Join(words[:n], " "), 2)
		}
		for at := range words { // another word
			for _, w := range other {
				changed := slices.Clone(words)
				changed[at] = w
				wrong(t, "\n"+strings.Join(changed, " "), 2)
			}
			joined := slices.Clone(words)
			if at > 0 {
				joined[at-1] += joined[at]
				wrong(t, "\n"+strings.Join(slices.Delete(joined, at, at+1), " "), 2)
			}
		}
		for _, w := range other { // too many
			wrong(t, "\n"+line+" "+w, 2)
		}
		if op := one()[line].Op; op != Share && op != Sort && op != Nest {
			wrong(t, "\n"+line+" a", 2)
			wrong(t, "\n"+line+" "+line, 2)
		}
		wrong(t, strings.ToUpper(line[:1])+line[1:], 1)
		wrong(t, line[1:], 1)
		wrong(t, "x"+line, 1)
	}
	for _, line := range []string{"x", "foo a", "Drop a", "drop", "drops a", "dro a", "a", "1", "-", "drop a b", "drop 1", "rename", "rename a", "rename a b c", "add", "add a", "add a i8", "add a 0", "add i8 0", "add a 0 i8", "add a i8 0 0", "add a i8 b", "widen a", "widen 8", "widen a b", "widen a 8 8",
		"share a b c", "share a b", "share a", "share", "share a b c 1", "sort a", "sort", "sort a 1", "nest a", "nest", "nest a b A", "lift", "lift a b", "lift 1", "each a b", "end a", "end end", "ends", "End"} {
		wrong(t, line, 1)
		wrong(t, "drop a\neach a\nend\n"+line+"\ndrop a", 4)
	}
	for _, line := range []string{"each", "each a b", "each 1", "each A", "each abcdefghi", "each a end", "each a\tend", "each each each"} {
		wrong(t, line+"\nend", 1)
	}
}

func TestBodies(t *testing.T) { // 18.1: an end without its each, an each without its end
	reads(t, lines("each a/drop b/end/drop c"), each("a", drop("b")), drop("c"))
	reads(t, lines("each a/each b/drop c/end/drop d/end/drop e"), each("a", each("b", drop("c")), drop("d")), drop("e"))
	reads(t, lines("  each a/end ; x"), each("a"))
	for text, line := range map[string]int{
		"end": 1, "/end": 2, "drop a/end": 2, "each a/end/end": 3, "each a/each b/end/end/end/drop a": 5, "end/x": 1, ";/ end ;/": 2,
		"each a": 1, "each a/": 2, "each a//": 3, "each a/drop a": 2, "each a/drop a/": 3, "each a/; end": 2, "each a/each b/end": 3, "each a/each b/end/;//": 6, "each a/end/each b/end/each c": 5, "/each a/drop b/  ": 4,
		"each a/x": 2, "each a/end end": 2, "each a/x/end": 2, "each a/each b/x": 3, "x/each a": 1, "x/end": 1, "each a/end/x/end": 3, "x/y/z": 1, "drop a/y/z": 2,
	} {
		wrong(t, lines(text), line)
	}
}

func TestDepth(t *testing.T) { // 18.1, 18.2: Each at most 4 in one another
	for depth := 1; depth <= 4; depth++ {
		text := ""
		for i := range depth {
			text += strings.Repeat("  ", i) + "each a\n"
		}
		text += strings.Repeat("  ", depth) + "drop x\n"
		for i := range depth {
			text += strings.Repeat("  ", depth-1-i) + "end\n"
		}
		isText(t, text, deep(depth, drop("x")))
		isText(t, text+text, deep(depth, drop("x")), deep(depth, drop("x"))) // one behind the other is no deeper
	}
	for depth := 5; depth <= 60; depth++ {
		text := strings.Repeat("each a\n", depth) + strings.Repeat("end\n", depth)
		wrong(t, text, 5)
		wrong(t, "\ndrop a\n"+text, 7)
		wrong(t, strings.Repeat("each a\n", depth), 5)
		refuses(t, api.ErrLong, deep(depth))
		refuses(t, api.ErrLong, drop("a"), deep(1, drop("b"), deep(depth-1, drop("x"))))
	}
	wrong(t, lines("each a/each b/each c/each d/end/end/each e/each f/each g"), 9)
	reads(t, lines("each a/each b/each c/each d/end/each e/end/end/end/end"), each("a", each("b", each("c", each("d"), each("e")))))
	wrong(t, lines("each a/each b/each c/each d/each"), 5)
}

func TestCount60(t *testing.T) { // 18.1, 18.2: 60 statements in all, those of Bodies too
	isText(t, strings.Repeat("drop a\n", 60), many(60)...)
	wrong(t, strings.Repeat("drop a\n", 61), 61)
	wrong(t, strings.Repeat("drop a\n", 100), 61)
	wrong(t, strings.Repeat("\n;\ndrop a\n", 100), 183)
	wrong(t, strings.Repeat("drop a\n", 60)+"\n\nx", 63)
	wrong(t, strings.Repeat("drop a\n", 60)+"end", 61)
	reads(t, strings.Repeat("drop a\n", 60)+"\n;\n\n", many(60)...)
	refuses(t, api.ErrLong, many(61)...)
	refuses(t, api.ErrLong, many(1000)...)
	body := "each a\n" + strings.Repeat("  drop a\n", 59)
	isText(t, body+"end\n", each("a", many(59)...))
	wrong(t, body+"drop b\nend", 61)
	wrong(t, body+"end\ndrop b", 62)
	wrong(t, body, 61) // the text's last line is an empty one
	wrong(t, strings.TrimSuffix(body, "\n"), 60)
	refuses(t, api.ErrLong, each("a", many(60)...))
	refuses(t, api.ErrLong, each("a", many(59)...), drop("b"))
	refuses(t, api.ErrLong, append(many(58), deep(3))...)
	pairs := strings.Repeat("each a\nend\n", 60)
	reads(t, pairs, slices.Repeat([]Stmt{each("a")}, 60)...)
	wrong(t, pairs+"each a\nend", 121)
	reads(t, strings.Repeat("drop a\n", 56)+"each a\neach a\neach a\neach a\nend\nend\nend\nend", append(many(56), deep(4))...) // an end is no statement
}

func TestCount(t *testing.T) { // 18.2
	for want, l := range map[int][]Stmt{
		0: nil, 1: {{}}, 2: {drop("a"), {Op: 77}}, 3: {each("a", drop("a"), drop("b"))}, 5: {drop("a"), each("a", each("b", drop("c"))), drop("a")},
		7: {{Op: Lift, Body: many(6)}}, 60: many(60), 61: many(61), 100: {deep(99, drop("a"))}, 200000: many(200000),
	} {
		if n := Count(l); n != want {
			t.Errorf("Count: %d, not %d", n, want)
		}
	}
	if Count([]Stmt{}) != 0 || Count([]Stmt{{Body: []Stmt{}}}) != 1 {
		t.Error("Count")
	}
	if n := Count([]Stmt{deep(3000000)}); n != 3000000 { // the bound: of any depth
		t.Error(n)
	}
}

// wrongStmts are statements that no line tells.
func wrongStmts() []Stmt {
	all := []Stmt{{}, {Name: "a"}, {Op: Drop}, {Op: Rename, Name: "a"}, {Op: Rename, To: "a"}, {Op: Add, Name: "a"}, {Op: Add, Type: typed("i8")}, {Op: Widen}, {Op: Widen, N: 8}, {Op: Each}, {Op: Lift}, {Op: Sort, Name: "a"}, {Op: Sort, Names: []string{"a"}}, {Op: Nest, Name: "a"},
		{Op: Sort, Name: "a", Names: []string{}}, {Op: Share, Name: "a", To: "b"}, {Op: Share, Name: "a", To: "b", Names: []string{"c"}}, {Op: Share, Name: "a", Names: []string{"b", "c", "d"}}, {Op: Share, To: "a", Names: []string{"b", "c", "d"}}}
	for _, op := range []int{math.MinInt, -1 << 32, -256, -9, -2, -1, 0, 10, 11, 256, 257, 1 << 32, 1<<32 + 2, math.MaxInt} {
		all = append(all, Stmt{Op: op}, Stmt{Op: op, Name: "a"}, Stmt{Op: op, Name: "a", To: "b"}, Stmt{Op: op, Body: []Stmt{drop("a")}})
	}
	for _, s := range append(slices.Collect(maps.Values(one())), each("a")) {
		all = append(all, changed(s)...)
	}
	return all
}

// noNames are texts that are no fields' names, though some of them leave a line of right words.
var noNames = []string{"", "abcdefghi", "A", "a1", "a b", " a", "a ", "a;", ";", " ", "a\n", "\n", "a\tb", "\xff", "é", "i8", "0", "a i8", "a  ", "  a", "a\ndrop b", "a b c d"}

// changed are statements that no line tells, each made of a right one by one change.
func changed(s Stmt) []Stmt {
	var all []Stmt
	with := func(change func(s *Stmt)) {
		c := s
		c.Names = slices.Clone(s.Names)
		change(&c)
		all = append(all, c)
	}
	for _, name := range noNames {
		with(func(c *Stmt) { c.Name = name })
		if name != "" || s.To != "" {
			with(func(c *Stmt) { c.To = name })
		}
		with(func(c *Stmt) { c.Names = append(c.Names, name) })
		for at := range s.Names {
			with(func(c *Stmt) { c.Names[at] = name })
		}
	}
	if s.To == "" {
		with(func(c *Stmt) { c.To = "b" })
	}
	if len(s.Names) == 0 {
		with(func(c *Stmt) { c.Names = []string{"b"} })
		with(func(c *Stmt) { c.Names = []string{"b", "c"} })
	}
	for _, n := range []int{math.MinInt, -1 << 32, -1, 4294967296, 1 << 33, math.MaxInt} {
		with(func(c *Stmt) { c.N = n })
	}
	if s.Op != Add && s.Op != Widen {
		with(func(c *Stmt) { c.N = 1 })
		with(func(c *Stmt) { c.N = 4294967295 })
	}
	for _, x := range wrongTypes() {
		with(func(c *Stmt) { c.Type = x })
	}
	if s.Op != Add {
		with(func(c *Stmt) { c.Type = typed("i8") })
	}
	if s.Op != Each {
		with(func(c *Stmt) { c.Body = []Stmt{drop("a")} })
		with(func(c *Stmt) { c.Body = make([]Stmt, 1) })
	}
	return all
}

// wrongTypes are types that are not right, and not that of a statement without one.
func wrongTypes() []types.Type {
	eight := types.Type{Kind: types.Int, N: 8}
	long := eight
	for range 6 {
		long = types.Type{Kind: types.List, N: 1, Kids: []types.Type{long}}
	}
	loop := types.Type{Kind: types.List, N: 1, Kids: []types.Type{eight}}
	loop.Kids[0] = loop
	return []types.Type{{Kind: types.Int}, {Kind: types.Int, N: 9}, {N: 8}, {Kind: types.Text, N: 256}, {Kind: types.List, N: 1}, {Kind: types.Rec}, {Kind: 5}, {Names: []string{"a"}}, {Kids: []types.Type{eight}}, {Kids: make([]types.Type, 200)}, {Kind: types.Int, N: 8, Names: []string{"a"}}, long, loop}
}

func TestWrongStmts(t *testing.T) { // 18.2: ErrForm, wherever it stands
	all := wrongStmts()
	if len(all) < 500 {
		t.Error(len(all))
	}
	for _, s := range all {
		if text, e := Print([]Stmt{s}); text != "" || e != api.ErrForm {
			t.Errorf("Print(%v): %q, %v", brief(s), text, e)
		}
		refuses(t, api.ErrForm, drop("a"), s)
		refuses(t, api.ErrForm, s, drop("a"))
		refuses(t, api.ErrForm, each("a", each("b", drop("a"), s)), drop("a"))
		refuses(t, api.ErrLong, append([]Stmt{s}, many(60)...)...) // ahead of ErrForm
		refuses(t, api.ErrLong, s, deep(5))
		refuses(t, api.ErrLong, deep(5, s))
	}
}

// brief tells a statement, but not its Type, which may be within itself.
func brief(s Stmt) string {
	return fmt.Sprintf("%d %q %q %q %d %d", s.Op, s.Name, s.To, s.Names, s.N, len(s.Body))
}

func TestEmptyLists(t *testing.T) { // 18.2, R2: empty ones are none
	for line, s := range one() {
		if len(s.Names) == 0 {
			s.Names = []string{}
		}
		s.Body = []Stmt{}
		if s.Op != Add {
			s.Type = types.Type{Names: []string{}, Kids: []types.Type{}}
		}
		isText(t, line+"\n", s)
	}
	isText(t, "each a\nend\n", Stmt{Op: Each, Name: "a", Body: []Stmt{}})
}

func TestLongBodies(t *testing.T) { // 18.2: Bodies count, though only an Each may have one; Each alone are deep
	lift := func(body ...Stmt) Stmt { return Stmt{Op: Lift, Name: "a", Body: body} }
	refuses(t, api.ErrForm, lift(many(59)...))
	refuses(t, api.ErrLong, lift(many(60)...))
	refuses(t, api.ErrForm, lift(lift(lift(lift(lift(lift(drop("a"))))))))
	refuses(t, api.ErrForm, lift(lift(lift(lift(lift(each("a")))))))
	refuses(t, api.ErrForm, lift(each("a", lift(each("a", lift(each("a", lift(each("a")))))))))
	refuses(t, api.ErrLong, lift(each("a", lift(each("a", lift(each("a", lift(each("a", lift(each("a")))))))))))
	refuses(t, api.ErrForm, Stmt{Op: 77, Body: many(59)})
	refuses(t, api.ErrLong, Stmt{Op: 77, Body: many(60)})
	refuses(t, api.ErrLong, Stmt{Op: 77, Body: []Stmt{deep(5)}})
}

func TestEnds(t *testing.T) { // the bound, and statements that are within themselves
	for _, op := range []int{Each, Lift, 0} {
		body := []Stmt{drop("a"), {}}
		body[1] = Stmt{Op: op, Name: "a", Body: body}
		refuses(t, api.ErrLong, body...)
		first := []Stmt{{Op: op, Name: "a"}}
		first[0].Body = first
		refuses(t, api.ErrLong, first...)
	}
	refuses(t, api.ErrLong, many(1000000)...)
	refuses(t, api.ErrLong, deep(1000000))
	for _, s := range []string{"a", " ", "drop", "drop ", "sort a ", "sort a", "end", "each", "each a ", ";", "\t", "0", "i8", "add a ", "add a i8 0", "\x00"} {
		long := strings.Repeat(s, 1000000)
		for _, ahead := range []string{"x ", "drop ", "drop a b", "add a ", "add a i8 ", "widen a ", "each a b ", "end a", "sort a 1 ", "share a b c 1 "} {
			wrong(t, "\n"+ahead+long+"x1", 2)
		}
	}
	wrong(t, strings.Repeat("\n", 1000000)+"x", 1000001)
	wrong(t, strings.Repeat("each a\nend\n", 1000000), 121)
	wrong(t, "each a"+strings.Repeat("\n", 1000000), 1000001)
	reads(t, strings.Repeat(" ;\n", 1000000))
	l, bad := Parse("sort a" + strings.Repeat(" b", 1000000))
	if bad != 0 || len(l) != 1 || len(l[0].Names) != 1000000 {
		t.Error(len(l), bad)
	}
	if s, e := Print(l); s != "sort a"+strings.Repeat(" b", 1000000)+"\n" || e != api.OK {
		t.Error(len(s), e)
	}
}

func TestScript(t *testing.T) { // 18.1 to 18.3: one that a system is changed by
	text := lines("share fds opens open kind obj off/rename fds slots/each areas/  add prot i8 3/end/sort areas pid first/rename areas spans/")
	isText(t, text,
		Stmt{Op: Share, Name: "fds", To: "opens", Names: []string{"open", "kind", "obj", "off"}}, Stmt{Op: Rename, Name: "fds", To: "slots"},
		each("areas", Stmt{Op: Add, Name: "prot", Type: typed("i8"), N: 3}), Stmt{Op: Sort, Name: "areas", Names: []string{"pid", "first"}}, Stmt{Op: Rename, Name: "areas", To: "spans"})
	l, _ := Parse(text)
	if Count(l) != 6 {
		t.Error(Count(l))
	}
}

func TestIndents(t *testing.T) { // 18.2: two spaces for each Each that a line stands in, one between words
	isText(t, lines("each a/  each b/    each c/      each d/        drop e/      end/      lift f/    end/  end/  drop g/end/drop h/"),
		each("a", each("b", each("c", each("d", drop("e")), Stmt{Op: Lift, Name: "f"})), drop("g")), drop("h"))
}

func TestZeroes(t *testing.T) { // 18.1: what a line does not tell is zero
	for line, s := range one() {
		l, _ := Parse(line)
		if len(l) != 1 || !reflect.DeepEqual(cleared(l)[0], cleared([]Stmt{s})[0]) {
			t.Errorf("Parse(%q): %v", line, l)
		}
	}
	l, _ := Parse("each a\nend")
	if len(l) != 1 || len(l[0].Body) != 0 || l[0].N != 0 || l[0].To != "" || len(l[0].Names) != 0 || l[0].Type.Kind != 0 {
		t.Errorf("%v", l)
	}
}
