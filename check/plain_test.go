package check

import (
	"math/rand/v2"
	"slices"
	"strconv"
	"strings"
	"testing"

	"imago/api"
	"imago/lang"
	"imago/types"
)

// parts are what stands between a text's outermost commas.
func parts(s string) []string {
	all := []string{""}
	depth := 0
	for _, c := range s {
		depth += strings.Count("(", string(c)) - strings.Count(")", string(c))
		if c == ',' && depth == 0 {
			all = append(all, "")
		} else {
			all[len(all)-1] += string(c)
		}
	}
	return all
}

// plainFields are the fields in a Rec's text: name:type.
func plainFields(text string) []string { return parts(text[2 : len(text)-1]) }

func plainRecord(fields []string) string { return "r(" + strings.Join(fields, ",") + ")" }

// plainBits is how many bits an Int's text tells; 0: it is no Int's.
func plainBits(text string) int { return map[string]int{"i8": 8, "i16": 16, "i32": 32}[text] }

// plainTable is what a text of a List of Recs tells: its beginning, and its Recs' text; empty ones: it is none.
func plainTable(text string) (begin, row string) {
	begin, row, _ = strings.Cut(text, "(r(")
	if row == "" || begin[0] != 'l' || strings.Contains(begin, "(") {
		return "", ""
	}
	return begin + "(", "r(" + strings.TrimSuffix(row, ")")
}

// plainRec is a Rec as its text tells it, for one statement.
type plainRec struct {
	fields []string
	of     map[string]string // the types' texts, by name
}

func plainRecOf(text string) plainRec {
	p := plainRec{plainFields(text), map[string]string{}}
	for _, f := range p.fields {
		name, of, _ := strings.Cut(f, ":")
		p.of[name] = of
	}
	return p
}

// has tells whether all are names of fields, and unlike ones.
func (p plainRec) has(names ...string) bool {
	for i, name := range names {
		if p.of[name] == "" || slices.Contains(names[:i], name) {
			return false
		}
	}
	return true
}

// with are the fields with others in one's place.
func (p plainRec) with(name string, others ...string) []string {
	var all []string
	for _, f := range p.fields {
		if strings.HasPrefix(f, name+":") {
			all = append(all, others...)
		} else {
			all = append(all, f)
		}
	}
	return all
}

// without are the fields that do not have these names.
func (p plainRec) without(names []string) []string {
	return slices.DeleteFunc(slices.Clone(p.fields), func(f string) bool {
		name, _, _ := strings.Cut(f, ":")
		return slices.Contains(names, name)
	})
}

// named are the fields of these names, in their order.
func (p plainRec) named(names []string) []string {
	var all []string
	for _, name := range names {
		all = append(all, name+":"+p.of[name])
	}
	return all
}

// plainOne is what a statement makes of a Rec's text, by the chapter's words, and 0; or the number of what is wrong.
func plainOne(s lang.Stmt, text string) (string, int) {
	p := plainRecOf(text)
	of := p.of[s.Name]
	begin, row := plainTable(of)
	var to []string
	switch s.Op {
	case lang.Rename:
		if p.has(s.Name) && !p.has(s.To) {
			to = p.with(s.Name, s.To+":"+of)
		}
	case lang.Drop:
		if p.has(s.Name) && len(p.fields) > 1 {
			to = p.with(s.Name)
		}
	case lang.Add:
		x, _ := types.Print(s.Type)
		if bits := plainBits(x); !p.has(s.Name) && (s.N == 0 || bits > 0 && s.N>>bits == 0) {
			to = append(p.with(""), s.Name+":"+x)
		}
	case lang.Widen:
		if bits := plainBits(of); bits > 0 && bits <= s.N {
			to = p.with(s.Name, s.Name+":i"+strconv.Itoa(s.N))
		}
	case lang.Each:
		if row != "" {
			made, bad := plainMake(s.Body, row)
			if bad > 0 {
				return "", 1 + bad
			}
			to = p.with(s.Name, s.Name+":"+begin+made+")")
		}
	case lang.Share:
		if row != "" {
			in, key, fields := plainRecOf(row), s.Names[0], s.Names[1:]
			if in.has(fields...) && !p.has(s.To) && (!in.has(key) || slices.Contains(fields, key)) {
				rows := plainRecord(append(in.without(fields), key+":i16"))
				to = append(p.with(s.Name, s.Name+":"+begin+rows+")"), s.To+":"+begin+plainRecord(in.named(fields))+")")
			}
		}
	case lang.Sort:
		if row != "" && !slices.ContainsFunc(s.Names, func(name string) bool { return plainBits(plainRecOf(row).of[name]) == 0 }) {
			to = p.fields
		}
	case lang.Nest:
		if p.has(s.Names...) && (!p.has(s.Name) || slices.Contains(s.Names, s.Name)) {
			to = append(p.without(s.Names), s.Name+":"+plainRecord(p.named(s.Names)))
		}
	case lang.Lift:
		if strings.HasPrefix(of, "r") {
			to = p.with(s.Name, plainFields(of)...)
		}
	}
	if _, e := types.Parse(plainRecord(to)); e != api.OK { // r() too
		return "", 1
	}
	return plainRecord(to), 0
}

// plainMake is what a script makes of a Rec's text, and 0; or the number of the first statement that is wrong.
func plainMake(l []lang.Stmt, text string) (string, int) {
	for i, s := range l {
		to, bad := plainOne(s, text)
		if bad > 0 {
			return "", lang.Count(l[:i]) + bad
		}
		text = to
	}
	return text, 0
}

// holds wants that Make answers as the chapter's words tell; it tells whether the script is right.
func holds(t *testing.T, l []lang.Stmt, from string) bool {
	t.Helper()
	to, bad := plainMake(l, from)
	want := api.OK
	if bad > 0 {
		want = api.ErrForm
	}
	answers(t, l, typed(from), to, bad, want)
	if t.Failed() {
		t.FailNow()
	}
	return bad == 0
}

// lists are all lists of names, of as many of these as there are places.
func lists(names []string, places int) [][]string {
	all := [][]string{{}}
	for range places {
		var longer [][]string
		for _, l := range all {
			for _, name := range names {
				longer = append(longer, append(slices.Clone(l), name))
			}
		}
		all = longer
	}
	return all
}

// allStatements are all statements of some few names, types and numbers, but Each.
func allStatements() []lang.Stmt {
	few := []string{"a", "b", "c", "d"}
	var all []lang.Stmt
	for _, name := range few {
		for _, to := range few {
			all = append(all, lang.Stmt{Op: lang.Rename, Name: name, To: to})
			for _, l := range append(lists(few, 2), lists(few[:3], 3)...) {
				all = append(all, lang.Stmt{Op: lang.Share, Name: name, To: to, Names: l})
			}
		}
		for _, l := range slices.Concat(lists(few, 1), lists(few, 2), lists(few[:3], 3)) {
			all = append(all, lang.Stmt{Op: lang.Sort, Name: name, Names: l}, lang.Stmt{Op: lang.Nest, Name: name, Names: l})
		}
		for _, n := range []int{0, 8, 16, 24, 32, 64} {
			all = append(all, lang.Stmt{Op: lang.Widen, Name: name, N: n})
		}
		for _, of := range []string{"i8", "t3", "l2(r(a:i8))", "l1(l1(l1(i8)))", "r(a:i8,b:i8)"} {
			for _, n := range []int{0, 1, 255, 256} {
				all = append(all, lang.Stmt{Op: lang.Add, Name: name, Type: typed(of), N: n})
			}
		}
		all = append(all, lang.Stmt{Op: lang.Drop, Name: name}, lang.Stmt{Op: lang.Lift, Name: name})
	}
	return all
}

// someTypes are Recs of all kinds.
var someTypes = []string{
	"r(a:i8)", "r(d:t3)", "r(a:i8,b:i16)", "r(b:t3,a:i32)", "r(a:r(a:i8))", "r(a:r(b:i8),c:r(c:i8,a:t3))", "r(a:r(a:i8,b:i8),b:i8)", "r(c:i8,b:r(a:r(a:i8,b:t1),d:i8))",
	"r(a:l2(r(a:i8)))", "r(a:l2(r(a:i8,b:t3)),c:i8)", "r(b:l0(r(a:i8,b:i16,c:i32)))", "r(a:i8,c:l96(r(b:i8,a:r(a:i8))),d:t0)", "r(a:l2(i8),b:l2(l2(r(a:i8))))",
	"r(a:l2(r(a:l2(r(a:i8,b:i8)),b:i8)),b:i8)", "r(b:l1(r(b:r(a:l1(i8)))),a:i16)", "r(a:r(a:r(a:r(a:r(a:i8)))))", "r(d:r(a:i8,b:i8),c:r(c:i8),b:l3(r(d:i8,c:t3,b:i8,a:i8)))",
}

func TestAllStatements(t *testing.T) { // 19.1, 19.2: held against the plain words
	right := map[int]int{}
	all := allStatements()
	for _, from := range someTypes {
		for _, s := range all {
			if holds(t, []lang.Stmt{s}, from) {
				right[s.Op]++
			}
		}
		for _, name := range []string{"a", "b", "c", "d"} {
			for _, s := range all {
				if holds(t, []lang.Stmt{{Op: lang.Each, Name: name, Body: []lang.Stmt{s}}}, from) {
					right[lang.Each]++
				}
			}
		}
	}
	for op, least := range []int{0, 60, 20, 200, 20, 300, 100, 60, 100, 5} {
		if right[op] < least {
			t.Errorf("op %d: %d are right", op, right[op])
		}
	}
}

// dice throws what tests are made of; the same at each run.
type dice struct{ *rand.Rand }

func throw(seed uint64) dice { return dice{rand.New(rand.NewPCG(seed, 19))} }

func (d dice) name() string { return string(rune('a' + d.IntN(7))) }

func (d dice) names(least int) []string {
	var l []string
	for range least + d.IntN(3) {
		l = append(l, d.name())
	}
	return l
}

// typ is a type's text, at most that deep.
func (d dice) typ(depth int) string {
	switch k := d.IntN(8); {
	case depth == 1 || k < 3:
		return []string{"i8", "i16", "i32", "t3", "t0"}[d.IntN(5)]
	case k == 3:
		return "l2(" + d.typ(depth-1) + ")"
	case k < 7 && depth > 2:
		return "l" + strconv.Itoa(d.IntN(5)) + "(" + d.rec(depth-1) + ")"
	}
	return d.rec(depth)
}

// rec is a Rec's text, at most that deep.
func (d dice) rec(depth int) string {
	var fields []string
	for i, at := range d.Perm(7)[:1+d.IntN(4)] {
		if i == 0 || depth > 3 {
			fields = append(fields, string(rune('a'+at))+":"+d.typ(depth-1))
		}
	}
	return plainRecord(fields)
}

// stmt is a statement, which stands in so many Each.
func (d dice) stmt(inside int) lang.Stmt {
	ops := []int{lang.Rename, lang.Drop, lang.Add, lang.Widen, lang.Nest, lang.Lift, lang.Each, lang.Each, lang.Each, lang.Share, lang.Share, lang.Share, lang.Share, lang.Sort, lang.Sort, lang.Sort, lang.Sort} // those that are seldom right more often
	s := lang.Stmt{Op: ops[d.IntN(len(ops))], Name: d.name()}
	switch s.Op {
	case lang.Rename:
		s.To = d.name()
	case lang.Add:
		s.Type, s.N = typed(d.typ(3)), d.IntN(2)*d.IntN(1<<d.IntN(20))
	case lang.Widen:
		s.N = 8 << d.IntN(4)
	case lang.Each:
		if inside == 4 {
			return d.stmt(inside)
		}
		for range d.IntN(4) {
			s.Body = append(s.Body, d.stmt(inside+1))
		}
	case lang.Share:
		s.To, s.Names = d.name(), d.names(2)
	case lang.Sort, lang.Nest:
		s.Names = d.names(1)
	}
	return s
}

// script is one of at most so many statements, which are thrown until each is right, but, sometimes, the last one.
func (d dice) script(from string, most int) []lang.Stmt {
	var l []lang.Stmt
	for range 20 * most {
		s := d.stmt(0)
		if lang.Count(l)+lang.Count([]lang.Stmt{s}) > most {
			return l
		}
		to, bad := plainOne(s, from)
		if bad > 0 && d.IntN(1000/(bad*bad)+1) > 0 { // one in a Body is rare: keep more of these
			continue
		}
		l = append(l, s)
		if bad > 0 {
			return l
		}
		from = to
	}
	return l
}

func TestManyScripts(t *testing.T) { // 19.1 to 19.4: held against the plain words
	d := throw(1)
	ops, right, wrong, inBody := map[int]int{}, 0, 0, 0
	for range 3000 {
		from := d.rec(5)
		l := d.script(from, d.IntN(61))
		if !holds(t, l, from) {
			wrong++
			if _, n, _ := Make(l, typed(from)); n > lang.Count(l[:len(l)-1])+1 {
				inBody++
			}
			continue
		}
		right++
		for _, s := range l {
			ops[s.Op]++
		}
		cut := d.IntN(len(l) + 1) // 19.4
		between, _, e := Make(l[:cut], typed(from))
		to, n, f := Make(l[cut:], between)
		whole, _, _ := Make(l, typed(from))
		if e != api.OK || n != 0 || f != api.OK || !types.Same(to, whole) {
			t.Fatalf("Make(%v, %s): %v, but %v in two", l, from, whole, to)
		}
	}
	for op := lang.Rename; op <= lang.Lift; op++ {
		if ops[op] < 500 {
			t.Errorf("op %d: %d are right", op, ops[op])
		}
	}
	if right < 1000 || wrong < 300 || inBody < 30 {
		t.Errorf("%d are right, %d wrong, %d in a Body", right, wrong, inBody)
	}
}

func TestWrongBehindRight(t *testing.T) { // 19.4: a second script that is wrong is so behind the first one
	d := throw(2)
	for range 1000 {
		from := d.rec(5)
		first := d.script(from, 10)
		between, _, e := Make(first, typed(from))
		if e != api.OK {
			continue
		}
		second := []lang.Stmt{d.stmt(0), d.stmt(0)}
		_, n, e := Make(second, between)
		_, whole, f := Make(append(slices.Clone(first), second...), typed(from))
		if e != f || e != api.OK && whole != lang.Count(first)+n {
			t.Fatalf("Make(%v and %v, %s): %v, %d, but %v, %d behind the first", first, second, from, f, whole, e, n)
		}
	}
}

// rows are all lists that stand in a type, spare room too.
func rows(t types.Type) (names [][]string, kids [][]types.Type) {
	for waiting := []types.Type{t}; len(waiting) > 0; waiting = waiting[1:] {
		x := waiting[0]
		names, kids = append(names, x.Names[:cap(x.Names)]), append(kids, x.Kids[:cap(x.Kids)])
		waiting = append(waiting, x.Kids...)
	}
	return names, kids
}

// unshared wants that no two lists in an answer share anything: what is written last then stands in each.
func unshared(t *testing.T, x types.Type) {
	t.Helper()
	names, kids := rows(x)
	for i := range names {
		for j := range names[i] {
			names[i][j] = strconv.Itoa(i) + "." + strconv.Itoa(j)
		}
		for j := range kids[i] {
			kids[i][j] = types.Type{Kind: i, N: j}
		}
	}
	for i := range names {
		for j, name := range names[i] {
			if name != strconv.Itoa(i)+"."+strconv.Itoa(j) {
				t.Fatal("lists of names share memory")
			}
		}
		for j, kid := range kids[i] {
			if kid.Kind != i || kid.N != j {
				t.Fatal("lists of types share memory")
			}
		}
	}
}

// roomyNames are names with spare room behind them, and something in it.
func roomyNames(names []string) []string {
	return append(slices.Clone(names), "spare", "room")[:len(names)]
}

// roomyType is a type whose lists have spare room, the empty ones too.
func roomyType(t types.Type) types.Type {
	kids := []types.Type{}
	for _, kid := range t.Kids {
		kids = append(kids, roomyType(kid))
	}
	return types.Type{Kind: t.Kind, N: t.N, Names: roomyNames(t.Names), Kids: append(kids, types.Type{Kind: 77}, types.Type{Kind: 78})[:len(kids)]}
}

// roomyScript is a script whose lists have spare room, but those that must be none.
func roomyScript(l []lang.Stmt) []lang.Stmt {
	made := []lang.Stmt{}
	for _, s := range l {
		s.Names, s.Body = roomyNames(s.Names), roomyScript(s.Body)
		if s.Op == lang.Add {
			s.Type = roomyType(s.Type)
		}
		made = append(made, s)
	}
	return append(made, lang.Stmt{Op: 77}, lang.Stmt{Op: 78})[:len(l)]
}

// sparedType wants that what stands in a type's spare room is what roomyType put there.
func sparedType(t *testing.T, x types.Type) {
	t.Helper()
	sparedNames(t, x.Names)
	if room := x.Kids[len(x.Kids) : len(x.Kids)+2]; room[0].Kind != 77 || room[1].Kind != 78 {
		t.Fatal("spare room was changed")
	}
	for _, kid := range x.Kids {
		sparedType(t, kid)
	}
}

func sparedNames(t *testing.T, names []string) {
	t.Helper()
	if room := names[len(names) : len(names)+2]; room[0] != "spare" || room[1] != "room" {
		t.Fatal("spare room was changed")
	}
}

// sparedScript wants that what stands in a script's spare room is what roomyScript put there.
func sparedScript(t *testing.T, l []lang.Stmt) {
	t.Helper()
	for _, s := range l {
		sparedNames(t, s.Names)
		sparedScript(t, s.Body)
		if s.Op == lang.Add {
			sparedType(t, s.Type)
		}
	}
	if room := l[len(l) : len(l)+2]; room[0].Op != 77 || room[1].Op != 78 {
		t.Fatal("spare room was changed")
	}
}

func TestMemory(t *testing.T) { // R2, R3, R6: arguments stay, answers are new, spare room too
	d := throw(3)
	for range 1500 {
		from := d.rec(5)
		l := d.script(from, d.IntN(12))
		text, e := lang.Print(l)
		if e != api.OK {
			t.Fatal(e)
		}
		x, script := roomyType(typed(from)), roomyScript(l)
		before, _, _ := Make(l, typed(from))
		to, _, _ := Make(script, x)
		if !types.Same(to, before) {
			t.Fatalf("Make(%q, %s): %v and %v", text, from, to, before)
		}
		unshared(t, to)
		if len(l) > 0 {
			one, _ := One(script[0], x)
			unshared(t, one)
		}
		sparedType(t, x)
		sparedScript(t, script)
		after, _ := lang.Print(script)
		same, _ := types.Print(x)
		if again, _, _ := Make(script, x); !types.Same(again, before) || after != text || same != from {
			t.Fatalf("Make(%q, %s) changed something", text, from)
		}
	}
}

func TestSharedArguments(t *testing.T) { // R3: no two lists of an answer share any, though those of an argument do
	ints := []types.Type{typed("i8"), typed("t3")}
	names := []string{"a", "b"}
	inner := types.Type{Kind: types.Rec, Names: names, Kids: ints}
	x := types.Type{Kind: types.Rec, Names: names, Kids: []types.Type{inner, inner}}
	for _, script := range []string{"", "rename a c", "add c i8 0", "nest c a b"} {
		to, _, e := Make(parsed(script), x)
		if e != api.OK {
			t.Fatal(e)
		}
		unshared(t, to)
	}
	twice := lang.Stmt{Op: lang.Add, Name: "x", Type: inner}
	again := twice
	again.Name = "y"
	to, _, e := Make([]lang.Stmt{twice, again}, x)
	if e != api.OK {
		t.Fatal(e)
	}
	unshared(t, to)
	if !slices.Equal(names, []string{"a", "b"}) || ints[0].N != 8 || ints[1].N != 3 {
		t.Error(names, ints)
	}
}
