package xform

import (
	"math/rand/v2"
	"reflect"
	"slices"
	"strings"
	"testing"

	"imago/api"
	"imago/check"
	"imago/lang"
	"imago/types"
	"imago/vals"
)

// node is a value with the names of its fields, which knows no type.
type node struct {
	kind, n int
	s       string
	names   []string
	kids    []node
}

// nodeOf is a value that fits, with the names that its type tells.
func nodeOf(v vals.Value, t types.Type) node {
	x := node{kind: v.Kind, n: v.N, s: v.S}
	for i, kid := range v.Kids {
		if t.Kind == types.List {
			x.kids = append(x.kids, nodeOf(kid, t.Kids[0]))
		} else {
			x.names, x.kids = append(x.names, t.Names[i]), append(x.kids, nodeOf(kid, t.Kids[i]))
		}
	}
	return x
}

// plainest is a type's plainest value, by the chapter's words.
func plainest(t types.Type) node {
	x := node{kind: t.Kind, names: append([]string(nil), t.Names...)}
	if t.Kind == types.Rec {
		for _, kid := range t.Kids {
			x.kids = append(x.kids, plainest(kid))
		}
	}
	return x
}

func (x node) get(name string) node { return x.kids[slices.Index(x.names, name)] }

// with is a Rec with a field more, at the end.
func (x node) with(name string, kid node) node {
	return node{kind: types.Rec, names: append(slices.Clone(x.names), name), kids: append(slices.Clone(x.kids), kid)}
}

// change is a Rec in which what one field is made into stands in its place.
func (x node) change(name string, do func(kid node) node) node {
	to := node{kind: types.Rec}
	for i, kid := range x.kids {
		of := node{names: []string{x.names[i]}, kids: []node{kid}}
		if x.names[i] == name {
			of = do(kid)
		}
		to.names, to.kids = append(to.names, of.names...), append(to.kids, of.kids...)
	}
	return to
}

// without is a Rec without fields.
func (x node) without(names []string) node {
	for _, name := range names {
		x = x.change(name, func(node) node { return node{} })
	}
	return x
}

// only is a Rec of some fields of another one.
func (x node) only(names []string) node {
	to := node{kind: types.Rec}
	for _, name := range names {
		to = to.with(name, x.get(name))
	}
	return to
}

// table is what stands for a field that is made into a List of other elements.
func table(name string, rows []node) node {
	return node{names: []string{name}, kids: []node{{kind: types.List, kids: rows}}}
}

// least is the place of the first of the least rows, by these fields.
func least(rows []node, names []string) int {
	numbers := func(row node) []int {
		var all []int
		for _, name := range names {
			all = append(all, row.get(name).n)
		}
		return all
	}
	at := 0
	for i, row := range rows {
		if slices.Compare(numbers(row), numbers(rows[at])) < 0 {
			at = i
		}
	}
	return at
}

// plainOne is what a statement makes of a Rec's value, by the chapter's words, and how many steps it takes.
func plainOne(s lang.Stmt, x node) (node, int) {
	steps := 1
	switch s.Op {
	case lang.Rename:
		x = x.change(s.Name, func(kid node) node { return node{names: []string{s.To}, kids: []node{kid}} })
	case lang.Drop:
		x = x.without([]string{s.Name})
	case lang.Add:
		more := plainest(s.Type)
		more.n = s.N
		x = x.with(s.Name, more)
	case lang.Each:
		x = x.change(s.Name, func(kid node) node {
			var rows []node
			for _, row := range kid.kids {
				to, n := plainRun(s.Body, row)
				rows, steps = append(rows, to), steps+n
			}
			return table(s.Name, rows)
		})
	case lang.Share:
		var now, more []node
		for i, row := range x.get(s.Name).kids {
			now = append(now, row.without(s.Names[1:]).with(s.Names[0], node{kind: types.Int, n: i}))
			more = append(more, row.only(s.Names[1:]))
		}
		steps += len(now)
		x = x.change(s.Name, func(node) node { return table(s.Name, now) }).with(s.To, node{kind: types.List, kids: more})
	case lang.Sort:
		var now []node
		left := slices.Clone(x.get(s.Name).kids)
		for len(left) > 0 {
			at := least(left, s.Names)
			now, left = append(now, left[at]), slices.Delete(left, at, at+1)
		}
		steps += len(now)
		x = x.change(s.Name, func(node) node { return table(s.Name, now) })
	case lang.Nest:
		x = x.without(s.Names).with(s.Name, x.only(s.Names))
	case lang.Lift:
		x = x.change(s.Name, func(kid node) node { return kid })
	}
	return x, steps
}

// plainRun is what a script makes of a Rec's value, and how many steps it takes.
func plainRun(l []lang.Stmt, x node) (node, int) {
	steps := 0
	for _, s := range l {
		to, n := plainOne(s, x)
		x, steps = to, steps+n
	}
	return x, steps
}

// dice throws what tests are made of; the same at each run.
type dice struct{ *rand.Rand }

func throw(seed uint64) dice { return dice{rand.New(rand.NewPCG(seed, 20))} }

func (d dice) name() string { return string(rune('a' + d.IntN(6))) }

// names are names, of which most are unlike.
func (d dice) names(least int) []string {
	var l []string
	for _, at := range d.Perm(6)[:least+d.IntN(2)] {
		l = append(l, string(rune('a'+at)))
	}
	if d.IntN(4) == 0 {
		l = append(l, d.name())
	}
	return l
}

// typ is a type, at most that deep.
func (d dice) typ(depth int) types.Type {
	switch k := d.IntN(8); {
	case depth == 1 || k < 3:
		return typed([]string{"i8", "i8", "i16", "i32", "t3"}[d.IntN(5)])
	case k == 3:
		return types.Type{Kind: types.List, N: d.IntN(4), Kids: []types.Type{d.typ(depth - 1)}}
	case k < 7 && depth > 2:
		return types.Type{Kind: types.List, N: d.IntN(8), Kids: []types.Type{d.rec(depth - 1)}}
	}
	return d.rec(depth)
}

// rec is a Rec, at most that deep.
func (d dice) rec(depth int) types.Type {
	x := types.Type{Kind: types.Rec}
	for _, at := range d.Perm(6)[:1+d.IntN(5)] {
		x.Names = append(x.Names, string(rune('a'+at)))
		x.Kids = append(x.Kids, d.typ(depth-1))
	}
	return x
}

// right is a right Rec.
func (d dice) right() types.Type {
	for {
		if x := d.rec(5); types.Check(x) == api.OK {
			return x
		}
	}
}

// value is one that fits a type; its numbers are often the same.
func (d dice) value(t types.Type) vals.Value {
	v := vals.Value{Kind: t.Kind}
	switch t.Kind {
	case types.Int:
		v.N = []int{d.IntN(3), d.IntN(1 << t.N)}[d.IntN(2)]
	case types.Text:
		v.S = "xyz"[:d.IntN(t.N+1)]
	case types.List:
		for range d.IntN(t.N + 1) {
			v.Kids = append(v.Kids, d.value(t.Kids[0]))
		}
	case types.Rec:
		for _, kid := range t.Kids {
			v.Kids = append(v.Kids, d.value(kid))
		}
	}
	return v
}

// stmt is a statement, which stands in so many Each.
func (d dice) stmt(inside int) lang.Stmt {
	ops := []int{lang.Rename, lang.Drop, lang.Add, lang.Widen, lang.Nest, lang.Lift, lang.Each, lang.Each, lang.Each, lang.Share, lang.Share, lang.Share, lang.Share, lang.Sort, lang.Sort, lang.Sort, lang.Sort} // those that are seldom right more often
	s := lang.Stmt{Op: ops[d.IntN(len(ops))], Name: d.name()}
	switch s.Op {
	case lang.Rename:
		s.To = d.name()
	case lang.Add:
		s.Type = d.typ(2)
		if s.Type.Kind == types.Int {
			s.N = d.IntN(1 << s.Type.N)
		}
	case lang.Widen:
		s.N = 8 << d.IntN(3)
	case lang.Each:
		if inside == 4 {
			return d.stmt(inside)
		}
		for range d.IntN(3) {
			s.Body = append(s.Body, d.stmt(inside+1))
		}
	case lang.Share:
		s.To, s.Names = d.name(), d.names(2)
	case lang.Sort, lang.Nest:
		s.Names = d.names(1)
	}
	return s
}

// script is one of at most so many statements, which are thrown until each is right.
func (d dice) script(t types.Type, most int) []lang.Stmt {
	var l []lang.Stmt
	for range 20 * most {
		s := d.stmt(0)
		to, e := check.One(s, t)
		if e != api.OK || s.Op == lang.Drop && d.IntN(3) > 0 {
			continue
		}
		if l = append(l, s); lang.Count(l) > most {
			return l[:len(l)-1]
		}
		t = to
	}
	return l
}

func TestManyScripts(t *testing.T) { // 20.1 to 20.5: held against the plain words
	d := throw(1)
	ops, fuelless := map[int]int{}, 0
	for range 1500 {
		of := d.right()
		v, l := d.value(of), d.script(of, d.IntN(30))
		now, _, e := check.Make(l, of)
		if e != api.OK {
			t.Fatalf("Make(%v, %v): %v", l, of, e)
		}
		for _, s := range l {
			ops[s.Op]++
		}
		want, steps := plainRun(l, nodeOf(v, of))
		to, n, e := Run(l, of, v, MaxFuel)
		if e != api.OK || n != steps || !vals.Fits(to, now) || !reflect.DeepEqual(nodeOf(to, now), want) {
			t.Fatalf("Run(%v, %v, %s): %s, %d, %v, not %v, %d", l, of, told(v), told(to), n, e, want, steps)
		}
		does(t, l, of, v, told(to), steps)
		if steps > 0 { // 20.4
			fuelless++
			refuses(t, l, of, v, d.IntN(steps), api.ErrFuel)
		}
		cut := d.IntN(len(l) + 1) // 20.5
		between, _, _ := check.Make(l[:cut], of)
		first, m, _ := Run(l[:cut], of, v, MaxFuel)
		second, k, e := Run(l[cut:], between, first, MaxFuel)
		if e != api.OK || m+k != steps || !vals.Same(second, to) {
			t.Fatalf("Run(%v, %v, %s): %s, %d, but %s, %d and %d in two", l, of, told(v), told(to), n, told(second), m, k)
		}
		if t.Failed() {
			t.FailNow()
		}
	}
	for op := lang.Rename; op <= lang.Lift; op++ {
		if ops[op] < 200 {
			t.Errorf("op %d: %d", op, ops[op])
		}
	}
	if fuelless < 1000 {
		t.Errorf("%d have too little fuel", fuelless)
	}
}

func TestManyErrors(t *testing.T) { // 20.1, 20.2: check.Make's error, ErrForm
	d := throw(2)
	seen := map[api.Errno]int{}
	for range 4000 {
		of, other := d.right(), d.right()
		l := []lang.Stmt{d.stmt(0), d.stmt(0)}[:d.IntN(3)]
		v := d.value([]types.Type{of, other}[d.IntN(2)])
		_, _, want := check.Make(l, of)
		if want == api.OK && !vals.Fits(v, of) {
			want = api.ErrForm
		}
		seen[want]++
		if want != api.OK {
			refuses(t, l, of, v, d.IntN(20)-1, want)
			costsNothing(t, l, of, v, want)
			continue
		}
		to, steps := plainRun(l, nodeOf(v, of))
		now, _, _ := check.Make(l, of)
		if w, n, e := Run(l, of, v, steps); e != api.OK || n != steps || !reflect.DeepEqual(nodeOf(w, now), to) {
			t.Fatalf("Run(%v, %v, %s, %d): %s, %d, %v", l, of, told(v), steps, told(w), n, e)
		}
	}
	if seen[api.OK] < 500 || seen[api.ErrForm] < 500 {
		t.Error(seen)
	}
}

// mark writes a number of its own into all places of all lists in a value, spare room too, and tells the lists.
func mark(v vals.Value) [][]vals.Value {
	all := [][]vals.Value{}
	for waiting := [][]vals.Value{v.Kids}; len(waiting) > 0; waiting = waiting[1:] {
		all = append(all, waiting[0][:cap(waiting[0])])
		for _, kid := range waiting[0] {
			waiting = append(waiting, kid.Kids)
		}
	}
	for i, row := range all {
		for j := range row {
			row[j] = vals.Value{Kind: 1000 + i, N: j}
		}
	}
	return all
}

// unshared wants that no two lists in an answer share anything.
func unshared(t *testing.T, v vals.Value) {
	t.Helper()
	for i, row := range mark(v) {
		for j := range row {
			if row[j].Kind != 1000+i || row[j].N != j {
				t.Fatal("lists of one answer share memory")
			}
		}
	}
}

// roomy is a value whose lists have spare room, the empty ones too, with something in it.
func roomy(v vals.Value) vals.Value {
	kids := []vals.Value{}
	for _, kid := range v.Kids {
		kids = append(kids, roomy(kid))
	}
	v.Kids = append(kids, vals.Value{Kind: 77}, vals.Value{Kind: 78})[:len(kids)]
	return v
}

// spared wants that what stands in the spare room of a value's lists is what roomy put there.
func spared(t *testing.T, v vals.Value) {
	t.Helper()
	if room := v.Kids[len(v.Kids) : len(v.Kids)+2]; room[0].Kind != 77 || room[1].Kind != 78 {
		t.Fatal("spare room was changed")
	}
	for _, kid := range v.Kids {
		spared(t, kid)
	}
}

func TestMemory(t *testing.T) { // R2, R3, R6: arguments stay, answers are new, spare room too
	d := throw(3)
	for range 2000 {
		of := d.right()
		l := d.script(of, d.IntN(8))
		v := roomy(d.value(of))
		text, _ := lang.Print(l)
		schema, _ := types.Print(of)
		before := told(v)
		to, steps, e := Run(l, of, v, MaxFuel)
		made := told(to)
		unshared(t, to)
		spared(t, v)
		if n, f := Cost(l, of, v); n != steps || f != e {
			t.Fatalf("Cost(%q, %s, %s): %d, %v", text, schema, before, n, f)
		}
		refuses(t, l, of, v, -1, api.ErrArg)
		if steps > 0 {
			refuses(t, l, of, v, steps-1, api.ErrFuel)
		}
		spared(t, v)
		again, n, f := Run(l, of, v, MaxFuel)
		after, _ := lang.Print(l)
		same, _ := types.Print(of)
		if told(again) != made || n != steps || f != e || told(v) != before || after != text || same != schema {
			t.Fatalf("Run(%q, %s, %s) changed something", text, schema, before)
		}
	}
}

func TestSharedArguments(t *testing.T) { // R3: no two lists of an answer share any, though those of an argument do
	row := value("([1 2] (3 4))")
	v := vals.Value{Kind: types.Rec, Kids: []vals.Value{{Kind: types.List, Kids: []vals.Value{row, row, row}}, {Kind: types.List, Kids: []vals.Value{row, row}}}}
	of := typed("r(a:l3(r(x:l2(i8),y:r(z:i8,w:i8))),b:l3(r(x:l2(i8),y:r(z:i8,w:i8))))")
	before := told(v)
	for _, script := range []string{"", "rename a c", "each a/end", "each a/add n r(a:i8,b:r(c:i8)) 0/end", "share a c k x y", "nest p a b", "each a/lift y/end/sort a z", "add c r(a:r(b:i8)) 0/add d r(a:r(b:i8)) 0"} {
		to, _, e := Run(parsed(script), of, v, MaxFuel)
		if e != api.OK {
			t.Fatal(script, e)
		}
		unshared(t, to)
		if told(v) != before {
			t.Fatalf("%s: %s", script, told(v))
		}
	}
}

func TestArgumentsStay(t *testing.T) { // R3: scripts and types, spare room too
	names := []string{"k", "b", "a", "spare"}
	kids := []types.Type{typed("i8"), typed("l2(i8)"), {Kind: 77}}
	fields := []string{"c", "d", "spare"}
	body := []lang.Stmt{{Op: lang.Add, Name: "n", Type: types.Type{Kind: types.Rec, Names: fields[:2], Kids: kids[:2]}}, {Op: lang.Nest, Name: "p", Names: names[1:3]}, {Op: 77}}
	l := []lang.Stmt{{Op: lang.Sort, Name: "rows", Names: names[1:3]}, {Op: lang.Share, Name: "rows", To: "to", Names: names[:2]}, {Op: lang.Each, Name: "more", Body: body[:2]}, {Op: 78}}
	ints := []types.Type{typed("i8"), typed("i16"), {Kind: 79}}
	row := types.Type{Kind: types.Rec, Names: []string{"a", "b", "spare"}[:2], Kids: ints[:2]}
	tables := []types.Type{{Kind: types.List, N: 3, Kids: []types.Type{row}}, {Kind: types.List, N: 3, Kids: []types.Type{row}}, {Kind: 80}}
	for range 2 {
		does(t, l[:3], types.Type{Kind: types.Rec, Names: []string{"rows", "more"}, Kids: tables[:2]}, value("([(1 9) (2 8)] [(3 7)])"), "([(2 0) (1 1)] [((0 []) (7 3))] [(8) (9)])", 3+3+1+2)
	}
	if !slices.Equal(names, []string{"k", "b", "a", "spare"}) || !slices.Equal(fields, []string{"c", "d", "spare"}) || row.Names[:3][2] != "spare" || kids[2].Kind != 77 || body[2].Op != 77 || l[3].Op != 78 || ints[2].Kind != 79 || tables[2].Kind != 80 {
		t.Error(names, fields, row, kids, body, l, ints, tables)
	}
	if ints[0].N != 8 || ints[1].N != 16 || kids[0].N != 8 || kids[1].N != 2 || tables[0].N != 3 || len(body[1].Names) != 2 {
		t.Error(ints, kids, tables, body)
	}
}

func TestShortScripts(t *testing.T) { // 20.1: all statements in a row of three, out of a few, on one value
	few := strings.Split("rename a d|drop b|add e i8 7|widen b 32|each a/widen x 16/end|each a/drop y/end|share a c k y|sort a x|sort a y x|nest p b|lift p|each c/add n i8 1/end|sort c y|share c q j y", "|")
	of, v := typed("r(a:l9(r(x:i8,y:i8)),b:i16)"), value("([(2 1) (1 2) (2 0) (1 1)] 300)")
	right := 0
	for i := range len(few) * len(few) * len(few) {
		l := parsed(few[i%len(few)] + "/" + few[i/len(few)%len(few)] + "/" + few[i/len(few)/len(few)])
		now, _, e := check.Make(l, of)
		if e != api.OK {
			refuses(t, l, of, v, MaxFuel, e)
			continue
		}
		right++
		want, steps := plainRun(l, nodeOf(v, of))
		if to, n, e := Run(l, of, v, steps); e != api.OK || n != steps || !reflect.DeepEqual(nodeOf(to, now), want) {
			t.Fatalf("Run(%v): %s, %d, %v, not %v, %d", l, told(to), n, e, want, steps)
		}
		refuses(t, l, of, v, steps-1, api.ErrFuel)
	}
	if right < 500 {
		t.Errorf("%d are right", right)
	}
}
