package lang

import (
	"math/rand/v2"
	"reflect"
	"regexp"
	"slices"
	"strconv"
	"strings"
	"testing"

	"imago/api"
	"imago/types"
)

// cleared is a script with nil in place of all empty lists.
func cleared(l []Stmt) []Stmt {
	var c []Stmt
	for _, s := range l {
		s.Names = append([]string(nil), s.Names...)
		s.Type = clearedType(s.Type)
		s.Body = cleared(s.Body)
		c = append(c, s)
	}
	return c
}

func clearedType(t types.Type) types.Type {
	c := types.Type{Kind: t.Kind, N: t.N}
	c.Names = append(c.Names, t.Names...)
	for _, kid := range t.Kids {
		c.Kids = append(c.Kids, clearedType(kid))
	}
	return c
}

func plainlySame(a, b []Stmt) bool { return reflect.DeepEqual(cleared(a), cleared(b)) }

// plainText is a right script's text, by the chapter's words.
func plainText(l []Stmt, ahead string) string {
	text := ""
	for _, s := range l {
		text += ahead + strings.Fields("- rename drop add widen each share sort nest lift")[s.Op] + " " + s.Name
		if s.To != "" {
			text += " " + s.To
		}
		if s.Op == 3 {
			of, _ := types.Print(s.Type)
			text += " " + of
		}
		if s.Op == 3 || s.Op == 4 {
			text += " " + strconv.Itoa(s.N)
		}
		for _, name := range s.Names {
			text += " " + name
		}
		text += "\n"
		if s.Op == 5 {
			text += plainText(s.Body, ahead+"  ") + ahead + "end\n"
		}
	}
	return text
}

// plainLines are the lines of each op, by the chapter's words, with their words between single spaces.
var plainLines = []*regexp.Regexp{
	Rename: line("rename N N"), Drop: line("drop N"), Add: line(`add N (\S+) ([0-9]{1,10})`), Widen: line("widen N ([0-9]{1,10})"), Each: line("each N"),
	Share: line("share N N((?: [a-z]{1,8}){2,})"), Sort: line("sort N((?: [a-z]{1,8})+)"), Nest: line("nest N((?: [a-z]{1,8})+)"), Lift: line("lift N"),
}

var plainName = line("N")

func line(form string) *regexp.Regexp {
	return regexp.MustCompile(`\A` + strings.ReplaceAll(form, "N", "([a-z]{1,8})") + `\z`)
}

// plainStmt is the statement of a line, with its words between single spaces.
func plainStmt(words string) (Stmt, bool) {
	for op := Rename; op <= Lift; op++ {
		m := plainLines[op].FindStringSubmatch(words)
		if m == nil {
			continue
		}
		s := Stmt{Op: op, Name: m[1]}
		if op == Rename || op == Share {
			s.To = m[2]
		}
		if op == Share || op == Sort || op == Nest {
			s.Names = strings.Split(m[len(m)-1][1:], " ")
		}
		e := api.OK
		if op == Add {
			s.Type, e = types.Parse(m[2])
		}
		if op == Add || op == Widen {
			s.N, _ = strconv.Atoi(m[len(m)-1])
		}
		return s, e == api.OK && s.N <= 4294967295
	}
	return Stmt{}, false
}

// plainParse is what Parse answers, by the chapter's words.
func plainParse(text string) ([]Stmt, int) {
	bodies := [][]Stmt{nil} // those that stand open, the outermost first
	var open []Stmt         // the Each of all but the first
	count := 0
	all := strings.Split(text, "\n")
	for i, l := range all {
		told, _, _ := strings.Cut(l, ";")
		words := strings.Join(slices.DeleteFunc(strings.Split(told, " "), func(w string) bool { return w == "" }), " ")
		last := len(bodies) - 1
		switch {
		case words == "":
		case words == "end" && last == 0:
			return nil, i + 1
		case words == "end":
			s := open[last-1]
			s.Body = bodies[last]
			open, bodies = open[:last-1], bodies[:last]
			bodies[last-1] = append(bodies[last-1], s)
		default:
			s, ok := plainStmt(words)
			count++
			if !ok || count > 60 || s.Op == Each && last == 4 {
				return nil, i + 1
			}
			if s.Op == Each {
				open, bodies = append(open, s), append(bodies, nil)
			} else {
				bodies[last] = append(bodies[last], s)
			}
		}
	}
	if len(open) > 0 {
		return nil, len(all)
	}
	return bodies[0], 0
}

// holds wants that a text is read as the chapter's words tell; it tells whether it is a script's.
func holds(t *testing.T, text string) bool {
	t.Helper()
	want, line := plainParse(text)
	l, bad := Parse(text)
	if !plainlySame(l, want) || bad != line {
		t.Fatalf("Parse(%q): %v, %d, not %v, %d", text, l, bad, want, line)
	}
	if bad != 0 {
		return false
	}
	s, e := Print(l)
	if s != plainText(want, "") || e != api.OK {
		t.Fatalf("Print of %q: %q, %v", text, s, e)
	}
	back, bad := Parse(s)
	if !plainlySame(back, l) || bad != 0 {
		t.Fatalf("Parse(%q): %v, %d", s, back, bad)
	}
	return true
}

// dice throws what tests are made of; the same at each run.
type dice struct{ *rand.Rand }

func throw(seed uint64) dice { return dice{rand.New(rand.NewPCG(seed, 18))} }

func (d dice) name() string {
	b := make([]byte, 1+d.IntN(8))
	for i := range b {
		b[i] = byte('a' + d.IntN(26))
	}
	return string(b)
}

func (d dice) names(least int) []string {
	var l []string
	for range least + d.IntN(4) {
		l = append(l, d.name())
	}
	return l
}

// stmt is a right statement, which stands in so many Each, with at most so many in its Body.
func (d dice) stmt(inside, most int) Stmt {
	s := Stmt{Op: 1 + d.IntN(9), Name: d.name()}
	if s.Op == Each && inside == 4 {
		s.Op = Lift
	}
	switch s.Op {
	case Rename:
		s.To = d.name()
	case Add:
		s.Type = typed([]string{"i8", "i16", "i32", "t0", "t16", "l3(i8)", "r(a:i8,b:l2(t3))"}[d.IntN(7)])
		s.N = d.IntN(4294967296 >> d.IntN(32))
	case Widen:
		s.N = d.IntN(4294967296 >> d.IntN(32))
	case Each:
		s.Body = d.script(inside+1, d.IntN(most+1))
	case Share:
		s.To, s.Names = d.name(), d.names(2)
	case Sort, Nest:
		s.Names = d.names(1)
	}
	return s
}

// script has at most so many statements in all.
func (d dice) script(inside, most int) []Stmt {
	var l []Stmt
	for Count(l) < most {
		l = append(l, d.stmt(inside, most-Count(l)-1))
	}
	return l
}

func TestManyScripts(t *testing.T) { // 18.1 to 18.3: held against the plain words
	d := throw(1)
	for range 4000 {
		l := d.script(0, d.IntN(61))
		text := plainText(l, "")
		isText(t, text, l...)
		if !holds(t, text) {
			t.Fatalf("%q", text)
		}
	}
}

// changedScript is a script of which one thing or other is changed, somewhere.
func (d dice) changedScript(l []Stmt) []Stmt {
	l = cleared(l)
	at := &l[d.IntN(len(l))]
	for len(at.Body) > 0 && d.IntN(3) > 0 {
		at = &at.Body[d.IntN(len(at.Body))]
	}
	switch d.IntN(8) {
	case 0:
		at.Op = d.IntN(12) - 1
	case 1:
		at.Name = noNames[d.IntN(len(noNames))]
	case 2:
		at.To = []string{"", "a", "a b", "A"}[d.IntN(4)]
	case 3:
		at.Names = at.Names[:d.IntN(len(at.Names)+1)]
	case 4:
		at.Names = append(at.Names, []string{"a", "b", "", "B"}[d.IntN(4)])
	case 5:
		at.N = []int{-1, 0, 1, 4294967295, 4294967296}[d.IntN(5)]
	case 6:
		at.Type = append(wrongTypes()[:8:8], typed("i8"), types.Type{})[d.IntN(10)]
	case 7:
		at.Body = append(at.Body, d.script(0, d.IntN(20))...)
	}
	return l
}

// errnoBy is what Print tells of a script, by the chapter's words.
func errnoBy(l []Stmt) api.Errno {
	type placed struct {
		s     Stmt
		depth int // how many Each there are from the outermost one on, itself too
	}
	all := []placed{}
	for _, s := range l {
		all = append(all, placed{s, 0})
	}
	form := api.OK
	for i := 0; i < len(all); i++ {
		p := &all[i]
		if p.s.Op == Each {
			p.depth++
		}
		if p.depth > 4 {
			return api.ErrLong
		}
		if !plainRight(p.s) {
			form = api.ErrForm
		}
		depth := p.depth
		for _, s := range p.s.Body {
			all = append(all, placed{s, depth})
		}
	}
	if len(all) > 60 {
		return api.ErrLong
	}
	return form
}

// plainRight tells whether a statement is such as a line tells it, by the chapter's table.
func plainRight(s Stmt) bool {
	if s.Op < 1 || s.Op > 9 {
		return false
	}
	isName := plainName.MatchString
	for _, name := range append([]string{s.Name}, s.Names...) {
		if !isName(name) {
			return false
		}
	}
	least := []int{0, 0, 0, 0, 0, 0, 2, 1, 1, 0}[s.Op]
	if len(s.Names) < least || least == 0 && len(s.Names) > 0 {
		return false
	}
	if s.Op == Rename || s.Op == Share {
		if !isName(s.To) {
			return false
		}
	} else if s.To != "" {
		return false
	}
	zero := reflect.DeepEqual(clearedType(s.Type), types.Type{})
	if s.Op == Add && types.Check(s.Type) != api.OK || s.Op != Add && !zero {
		return false
	}
	if s.N < 0 || s.N > 4294967295 || s.N != 0 && s.Op != Add && s.Op != Widen {
		return false
	}
	return s.Op == Each || len(s.Body) == 0
}

func TestManyChangedScripts(t *testing.T) { // 18.2: held against the plain words
	d := throw(2)
	seen := map[api.Errno]int{}
	for range 8000 {
		l := d.script(0, 1+d.IntN(60))
		for range 1 + d.IntN(2) {
			l = d.changedScript(l)
		}
		before := cleared(l)
		want := errnoBy(l)
		seen[want]++
		if want == api.OK {
			isText(t, plainText(l, ""), l...)
		} else {
			refuses(t, want, l...)
		}
		if !plainlySame(l, before) { // R3
			t.Fatalf("%v became %v", before, l)
		}
	}
	for _, e := range []api.Errno{api.OK, api.ErrLong, api.ErrForm} {
		if seen[e] < 200 {
			t.Errorf("%d of %v", seen[e], e)
		}
	}
}

func TestChangedTexts(t *testing.T) { // 18.1: a byte more, less or another one
	const marks = "abz A019; \n\n\t\x00\xff()"
	d := throw(3)
	right := 0
	for range 1000 {
		s := plainText(d.script(0, 1+d.IntN(8)), "")
		for range 20 {
			at, mark := d.IntN(len(s)+1), string(marks[d.IntN(len(marks))])
			texts := []string{s[:at] + mark + s[at:], s[:at], s[at:]}
			if at < len(s) {
				texts = append(texts, s[:at]+s[at+1:], s[:at]+mark+s[at+1:])
			}
			for _, text := range texts {
				if holds(t, text) {
					right++
				}
			}
		}
	}
	if right < 7000 {
		t.Errorf("%d are right", right)
	}
}

func TestThrownLines(t *testing.T) { // 18.1: lines of thrown words
	words := strings.Split("rename|drop|add|widen|each|each|share|sort|nest|lift|end|end|a|b|abcdefgh|abcdefghi|i8|l3(t2)|i9|0|8|4294967295|4294967296|00000000001|;|A||", "|")
	d := throw(4)
	right := 0
	for range 100000 {
		text := ""
		for range 1 + d.IntN(3) {
			for range d.IntN(6) {
				text += words[d.IntN(len(words))] + " "
			}
			text += "\n"
		}
		if holds(t, strings.TrimSuffix(text, "\n")) {
			right++
		}
	}
	if right < 5000 {
		t.Errorf("%d are right", right)
	}
}

func TestAllShortTexts(t *testing.T) { // 18.1: all texts of up to 7 lines out of a few
	few := []string{"each a", "end", "drop b", "", "x"}
	texts := []string{"each a", "end", "drop b", "", "x"}
	right := 0
	for range 6 {
		var longer []string
		for _, text := range texts {
			if holds(t, text) {
				right++
			}
			if _, bad := plainParse(text); bad > 0 && bad < 1+strings.Count(text, "\n") {
				continue // what follows a line that is wrong tells nothing more
			}
			for _, line := range few {
				longer = append(longer, text+"\n"+line)
			}
		}
		texts = longer
	}
	for _, text := range texts {
		holds(t, text)
	}
	if right < 300 {
		t.Errorf("%d are right", right)
	}
}

func TestAllDepths(t *testing.T) { // 18.1: all texts of up to 12 lines that are an each or an end
	for n := range 13 {
		for bits := range 1 << n {
			text := ""
			for i := range n {
				text += []string{"each a\n", "end\n"}[bits>>i&1]
			}
			holds(t, text)
			holds(t, strings.TrimSuffix(text, "\n"))
		}
	}
}

// lists are all lists that stand in a script.
func lists(l []Stmt) (bodies [][]Stmt, names [][]string, kids [][]types.Type) {
	bodies = append(bodies, l[:cap(l)])
	for _, s := range l {
		names = append(names, s.Names[:cap(s.Names)])
		for waiting := []types.Type{s.Type}; len(waiting) > 0; waiting = waiting[1:] {
			names = append(names, waiting[0].Names[:cap(waiting[0].Names)])
			kids = append(kids, waiting[0].Kids[:cap(waiting[0].Kids)])
			waiting = append(waiting, waiting[0].Kids...)
		}
		b, n, k := lists(s.Body)
		bodies, names, kids = append(bodies, b...), append(names, n...), append(kids, k...)
	}
	return bodies, names, kids
}

// apart tells whether no two lists share anything: what is written last then stands in each.
func apart[T any](all [][]T, made func(i, j int) T) bool {
	for i, l := range all {
		for j := range l {
			l[j] = made(i, j)
		}
	}
	for i, l := range all {
		for j := range l {
			if !reflect.DeepEqual(l[j], made(i, j)) {
				return false
			}
		}
	}
	return true
}

func TestAnswersAreNew(t *testing.T) { // R3, R6: spare room too
	d := throw(5)
	for range 500 {
		text := plainText(d.script(0, d.IntN(61)), "")
		one, _ := Parse(text)
		other, _ := Parse(text)
		bodies, names, kids := lists(one)
		if !apart(names, func(i, j int) string { return strconv.Itoa(i) + "." + strconv.Itoa(j) }) ||
			!apart(kids, func(i, j int) types.Type { return types.Type{Kind: i, N: j} }) ||
			!apart(bodies, func(i, j int) Stmt { return Stmt{Op: i, N: j} }) {
			t.Fatalf("Parse(%q): lists share memory", text)
		}
		if plainText(other, "") != text {
			t.Fatalf("Parse(%q): two answers share memory", text)
		}
	}
}

func TestArgumentsStay(t *testing.T) { // R3: what is handed in is not changed, spare room too
	names := []string{"key", "a", "spare"}
	kids := []types.Type{{Kind: types.Int, N: 8}, {Kind: 77}}
	fields := []string{"a", "spare"}
	body := []Stmt{{Op: Share, Name: "x", To: "y", Names: names[:2]}, {Op: Add, Name: "z", Type: types.Type{Kind: types.Rec, Names: fields[:1], Kids: kids[:1]}}, {Op: 77}}
	l := []Stmt{{Op: Each, Name: "rows", Body: body[:2]}, {Op: 78}}
	for range 2 {
		isText(t, "each rows\n  share x y key a\n  add z r(a:i8) 0\nend\n", l[:1]...)
		if Count(l[:1]) != 3 {
			t.Error(Count(l[:1]))
		}
	}
	if !slices.Equal(names, []string{"key", "a", "spare"}) || !slices.Equal(fields, []string{"a", "spare"}) || kids[0].N != 8 || kids[1].Kind != 77 || body[2].Op != 77 || l[1].Op != 78 {
		t.Error(names, fields, kids, body, l)
	}
}
