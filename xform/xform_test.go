package xform

import (
	"math"
	"slices"
	"strconv"
	"strings"
	"testing"

	"imago/api"
	"imago/check"
	"imago/lang"
	"imago/types"
	"imago/vals"
)

// typed is a text's type.
func typed(s string) types.Type {
	x, e := types.Parse(s)
	if e != api.OK {
		panic(s)
	}
	return x
}

// parsed is the script of lines that are told between slashes.
func parsed(s string) []lang.Stmt {
	l, bad := lang.Parse(strings.ReplaceAll(s, "/", "\n"))
	if bad != 0 {
		panic(s)
	}
	return l
}

// told is a value as a text: 5, 'x', [rows of a List], (Kids of a Rec), with spaces between.
func told(v vals.Value) string {
	switch v.Kind {
	case types.Int:
		return strconv.Itoa(v.N)
	case types.Text:
		return "'" + v.S + "'"
	}
	var kids []string
	for _, kid := range v.Kids {
		kids = append(kids, told(kid))
	}
	between := strings.Join(kids, " ")
	if v.Kind == types.List {
		return "[" + between + "]"
	}
	return "(" + between + ")"
}

// value is the value that a text tells.
func value(s string) vals.Value {
	for _, mark := range []string{"(", ")", "[", "]"} {
		s = strings.ReplaceAll(s, mark, " "+mark+" ")
	}
	open := []vals.Value{{}}
	for _, word := range strings.Fields(s) {
		last := len(open) - 1
		switch {
		case word == "(":
			open = append(open, vals.Value{Kind: types.Rec})
		case word == "[":
			open = append(open, vals.Value{Kind: types.List})
		case word == ")" || word == "]":
			open[last-1].Kids = append(open[last-1].Kids, open[last])
			open = open[:last]
		case word[0] == '\'':
			open[last].Kids = append(open[last].Kids, vals.Value{Kind: types.Text, S: strings.Trim(word, "'")})
		default:
			n, err := strconv.Atoi(word)
			if err != nil {
				panic(s)
			}
			open[last].Kids = append(open[last].Kids, vals.Value{Kind: types.Int, N: n})
		}
	}
	return open[0].Kids[0]
}

// zero tells whether a value is the zero value.
func zero(v vals.Value) bool { return vals.Same(v, vals.Value{}) }

// runs wants that a script makes that of a value, with that many steps and no less fuel.
func runs(t *testing.T, script, of, from, to string, steps int) {
	t.Helper()
	does(t, parsed(script), typed(of), value(from), to, steps)
}

func does(t *testing.T, l []lang.Stmt, of types.Type, from vals.Value, to string, steps int) {
	t.Helper()
	now, _, e := check.Make(l, of)
	if e != api.OK {
		t.Fatalf("Make(%.200v, %.200v): %v", l, of, e)
	}
	for _, fuel := range []int{steps, min(steps+1, MaxFuel), MaxFuel} {
		v, n, e := Run(l, of, from, fuel)
		if told(v) != to || n != steps || e != api.OK {
			t.Errorf("Run(%.200v, %.200v, %.200s, %d): %.200s, %d, %v, not %.200s, %d", l, of, told(from), fuel, told(v), n, e, to, steps)
		}
		if !vals.Fits(v, now) { // 20.3
			t.Errorf("Run(%.200v, %.200v, %.200s, %d): %.200v fits not %v", l, of, told(from), fuel, v, now)
		}
	}
	for _, fuel := range []int{0, steps / 2, steps - 1} {
		if fuel >= 0 && fuel < steps { // 20.4
			refuses(t, l, of, from, fuel, api.ErrFuel)
		}
	}
	if n, e := Cost(l, of, from); n != steps || e != api.OK {
		t.Errorf("Cost(%.200v, %.200v, %.200s): %d, %v, not %d", l, of, told(from), n, e, steps)
	}
}

// refuses wants that Run answers an error.
func refuses(t *testing.T, l []lang.Stmt, of types.Type, v vals.Value, fuel int, want api.Errno) {
	t.Helper()
	if w, n, e := Run(l, of, v, fuel); !zero(w) || n != 0 || e != want { // R4
		t.Errorf("Run(%.200v, %.200v, %.200s, %d): %.200v, %d, %v, not %v", l, of, told(v), fuel, w, n, e, want)
	}
}

// costsNothing wants that Cost answers an error.
func costsNothing(t *testing.T, l []lang.Stmt, of types.Type, v vals.Value, want api.Errno) {
	t.Helper()
	if n, e := Cost(l, of, v); n != 0 || e != want { // R4
		t.Errorf("Cost(%.200v, %.200v, %.200s): %d, %v, not %v", l, of, told(v), n, e, want)
	}
}

const (
	small     = "r(pid:i8,rows:l4(r(a:i8,b:t3,c:i16)),n:i8)"
	smallOnes = "(9 [(3 'x' 1) (1 'y' 2) (3 '' 0)] 7)"
)

func TestConstants(t *testing.T) {
	if MaxFuel != 10000 {
		t.Error(MaxFuel)
	}
}

func TestExample(t *testing.T) { // the chapter's example
	runs(t, "share rows to key a", "r(rows:l4(r(a:i8)))", "([(5) (7)])", "([(0) (1)] [(5) (7)])", 3)
}

func TestNothing(t *testing.T) { // 20.1, R2: no statement, no step
	runs(t, "", small, smallOnes, smallOnes, 0)
	does(t, []lang.Stmt{}, typed(small), value(smallOnes), smallOnes, 0)
	runs(t, "", "r(a:r(a:l0(i8)))", "(([]))", "(([]))", 0)
	empty := vals.Value{Kind: types.Rec, Kids: []vals.Value{{Kind: types.List, Kids: []vals.Value{}}}}
	does(t, nil, typed("r(a:l3(i8))"), empty, "([])", 0)
	does(t, parsed("each a/drop b/end/sort a c"), typed("r(a:l3(r(b:i8,c:i8)))"), empty, "([])", 2)
}

func TestRename(t *testing.T) { // 20.1: nothing changes
	runs(t, "rename pid id", small, smallOnes, smallOnes, 1)
	runs(t, "rename n x/rename x y/rename rows n", small, smallOnes, smallOnes, 3)
	runs(t, "rename a c/rename b a/drop c", "r(a:i8,b:i8)", "(1 2)", "(2)", 3)
}

func TestDrop(t *testing.T) { // 20.1: the field's Kid is gone
	runs(t, "drop pid", small, smallOnes, "([(3 'x' 1) (1 'y' 2) (3 '' 0)] 7)", 1)
	runs(t, "drop rows", small, smallOnes, "(9 7)", 1)
	runs(t, "drop n", small, smallOnes, "(9 [(3 'x' 1) (1 'y' 2) (3 '' 0)])", 1)
	runs(t, "drop rows/drop pid", small, smallOnes, "(7)", 2)
}

func TestAdd(t *testing.T) { // 20.1: the plainest value, with N, at the end
	for text, want := range map[string]string{"i8 0": "0", "i8 1": "1", "i8 255": "255", "i16 65535": "65535", "i32 4294967295": "4294967295", "i32 0": "0", "t3 0": "''", "t0 0": "''", "l3(i8) 0": "[]", "l0(r(a:i8)) 0": "[]", "r(a:i8,b:t3,c:l3(i8),d:r(a:i8)) 0": "(0 '' [] (0))"} {
		runs(t, "add x "+text, "r(a:i8,b:t3)", "(5 'y')", "(5 'y' "+want+")", 1)
		runs(t, "drop b/add b "+text, "r(b:t3,a:i8)", "('y' 5)", "(5 "+want+")", 2)
		runs(t, "each rows/add x "+text+"/end", "r(rows:l3(r(a:i8)))", "([(1) (2) (3)])", "([(1 "+want+") (2 "+want+") (3 "+want+")])", 4)
	}
}

func TestWiden(t *testing.T) { // 20.1: nothing changes
	runs(t, "widen pid 32", small, smallOnes, smallOnes, 1)
	runs(t, "widen a 8/widen a 16/widen a 32", "r(a:i8)", "(255)", "(255)", 3)
	runs(t, "widen a 32/widen b 32", "r(a:i32,b:i16)", "(4294967295 65535)", "(4294967295 65535)", 2)
}

func TestEach(t *testing.T) { // 20.1: its Body makes of each element what it is then
	runs(t, "each rows/end", small, smallOnes, smallOnes, 1)
	runs(t, "each rows/drop b/end", small, smallOnes, "(9 [(3 1) (1 2) (3 0)] 7)", 4)
	runs(t, "each rows/drop b/nest p c a/end/drop n", small, smallOnes, "(9 [((1 3)) ((2 1)) ((0 3))])", 8)
	const of = "r(n:i8,a:l3(r(b:l3(r(c:i8,d:i8)),e:i8)))"
	runs(t, "each a/each b/drop d/end/end", of, "(1 [([(1 2) (3 4)] 5) ([] 6) ([(7 8)] 9)])", "(1 [([(1) (3)] 5) ([] 6) ([(7)] 9)])", 1+3+3)
	runs(t, "each a/each b/drop d/rename c d/end/rename e f/end", of, "(1 [([(1 2) (3 4)] 5) ([] 6) ([(7 8)] 9)])", "(1 [([(1) (3)] 5) ([] 6) ([(7)] 9)])", 1+3+6+3)
	runs(t, "each a/each b/drop d/end/end", of, "(1 [])", "(1 [])", 1)
	runs(t, "each a/sort b d/share b e k d c/drop e/end", "r(a:l3(r(b:l3(r(c:i8,d:i8)))))", "([([(1 9) (2 8)]) ([]) ([(4 0)])])", "([([(0) (1)]) ([]) ([(0)])])", 1+9+3+3)
}

func TestShare(t *testing.T) { // 20.1: places in the list, in the elements' order
	runs(t, "share rows to key b a", small, smallOnes, "(9 [(1 0) (2 1) (0 2)] 7 [('x' 3) ('y' 1) ('' 3)])", 4)
	runs(t, "share rows to key a b", small, smallOnes, "(9 [(1 0) (2 1) (0 2)] 7 [(3 'x') (1 'y') (3 '')])", 4)
	runs(t, "share rows to key c b a", small, smallOnes, "(9 [(0) (1) (2)] 7 [(1 'x' 3) (2 'y' 1) (0 '' 3)])", 4)
	runs(t, "share rows to a a", small, smallOnes, "(9 [('x' 1 0) ('y' 2 1) ('' 0 2)] 7 [(3) (1) (3)])", 4)
	runs(t, "share rows to key b", small, "(9 [] 7)", "(9 [] 7 [])", 1)
	runs(t, "share rows to k a/share rows more j k/drop rows", small, smallOnes, "(9 7 [(3) (1) (3)] [(0) (1) (2)])", 9)
	runs(t, "share rows to k a", "r(x:i8,rows:l3(r(a:l2(r(b:i8)),c:r(d:i8))))", "(1 [([(2)] (3)) ([] (4))])", "(1 [((3) 0) ((4) 1)] [([(2)]) ([])])", 3)
}

func TestSort(t *testing.T) { // 20.1: rising, by the FIELDs one behind the other, at last as they stood
	const of = "r(x:t1,rows:l9(r(a:i8,b:i32,c:t3)))"
	const from = "('x' [(2 9 'a') (1 5 'b') (2 3 'c') (1 5 'd') (0 9 'e') (2 3 'f')])"
	runs(t, "sort rows a", of, from, "('x' [(0 9 'e') (1 5 'b') (1 5 'd') (2 9 'a') (2 3 'c') (2 3 'f')])", 7)
	runs(t, "sort rows b", of, from, "('x' [(2 3 'c') (2 3 'f') (1 5 'b') (1 5 'd') (2 9 'a') (0 9 'e')])", 7)
	runs(t, "sort rows a b", of, from, "('x' [(0 9 'e') (1 5 'b') (1 5 'd') (2 3 'c') (2 3 'f') (2 9 'a')])", 7)
	runs(t, "sort rows b a", of, from, "('x' [(2 3 'c') (2 3 'f') (1 5 'b') (1 5 'd') (0 9 'e') (2 9 'a')])", 7)
	runs(t, "sort rows b a b", of, from, "('x' [(2 3 'c') (2 3 'f') (1 5 'b') (1 5 'd') (0 9 'e') (2 9 'a')])", 7)
	runs(t, "sort rows b/sort rows a", of, from, "('x' [(0 9 'e') (1 5 'b') (1 5 'd') (2 3 'c') (2 3 'f') (2 9 'a')])", 14)
	runs(t, "sort rows a a", of, from, "('x' [(0 9 'e') (1 5 'b') (1 5 'd') (2 9 'a') (2 3 'c') (2 3 'f')])", 7)
	runs(t, "sort rows a", of, "('x' [])", "('x' [])", 1)
	runs(t, "sort rows b", of, "('x' [(1 4294967295 '') (2 2147483648 '') (3 0 '') (4 10 '') (5 9 '')])", "('x' [(3 0 '') (5 9 '') (4 10 '') (2 2147483648 '') (1 4294967295 '')])", 6)
}

func TestStable(t *testing.T) { // 20.1: as they stood, also of many
	var from, to []string
	for i := range 96 {
		from = append(from, "("+strconv.Itoa(95-i/32)+" "+strconv.Itoa(i)+")")
		to = append(to, "("+strconv.Itoa(95-(95-i)/32)+" "+strconv.Itoa((95-i)/32*32+i%32)+")")
	}
	runs(t, "sort rows a", "r(rows:l96(r(a:i8,b:i8)))", "(["+strings.Join(from, " ")+"])", "(["+strings.Join(to, " ")+"])", 97)
}

func TestNest(t *testing.T) { // 20.1: at the end stands a Rec of them
	runs(t, "nest p n pid", small, smallOnes, "([(3 'x' 1) (1 'y' 2) (3 '' 0)] (7 9))", 1)
	runs(t, "nest p pid n", small, smallOnes, "([(3 'x' 1) (1 'y' 2) (3 '' 0)] (9 7))", 1)
	runs(t, "nest p rows", small, "(9 [] 7)", "(9 7 ([]))", 1)
	runs(t, "nest pid n rows pid", small, "(9 [] 7)", "((7 [] 9))", 1)
}

func TestLift(t *testing.T) { // 20.1: its Kids stand in its place
	runs(t, "lift p", "r(x:t1,p:r(a:i8,b:r(c:i8)),y:t1)", "('x' (1 (2)) 'y')", "('x' 1 (2) 'y')", 1)
	runs(t, "lift p/lift b", "r(x:t1,p:r(a:i8,b:r(c:i8)),y:t1)", "('x' (1 (2)) 'y')", "('x' 1 2 'y')", 2)
	runs(t, "lift p", "r(p:r(p:r(p:i8)))", "(((5)))", "((5))", 1)
	runs(t, "lift p", "r(p:r(a:i8,b:i8),x:i8)", "((1 2) 3)", "(1 2 3)", 1)
	runs(t, "nest p n pid/lift p", small, "(9 [] 7)", "([] 7 9)", 2)
}

func TestErrors(t *testing.T) { // 20.1, 20.2: check.Make's error, a value that does not fit, a wrong fuel, too little, in this order
	of, v, misfit := typed(small), value(smallOnes), value("(9)")
	right := parsed("drop rows/drop n")
	fuels := []int{math.MinInt, -10001, -1, 0, 1, 2, MaxFuel, MaxFuel + 1, math.MaxInt}
	both := func(l []lang.Stmt, of types.Type, v vals.Value, want api.Errno) {
		t.Helper()
		for _, fuel := range fuels {
			refuses(t, l, of, v, fuel, want)
		}
		costsNothing(t, l, of, v, want)
	}
	deep := typed("i8")
	for range 6 {
		deep = types.Type{Kind: types.List, N: 1, Kids: []types.Type{deep}}
	}
	for _, w := range []vals.Value{v, misfit, {}} {
		both(right, types.Type{}, w, api.ErrForm)
		both(nil, deep, w, api.ErrLong)
		both(right, typed("i8"), w, api.ErrArg)
		both(nil, typed("l3(i8)"), w, api.ErrArg)
		both(slices.Repeat(right, 31), of, w, api.ErrLong)
		both([]lang.Stmt{{}}, of, w, api.ErrForm)
		both(parsed("drop x"), of, w, api.ErrForm)
		both(parsed("drop rows/drop n/drop pid"), of, w, api.ErrForm)
	}
	both(nil, typed("i8"), vals.Value{Kind: types.Int, N: 5}, api.ErrArg)
	for _, text := range []string{"(9)", "9", "[]", "'x'", "(9 [] 7 8)", "(256 [] 7)", "(9 [(3 'xyzw' 1)] 7)", "(9 [(3 'x' 65536)] 7)", "(9 [3] 7)", "(9 (3) 7)", "(9 [(3 'x')] 7)", "(9 [(1 'x' 1) (1 'x' 1) (1 'x' 1) (1 'x' 1) (1 'x' 1)] 7)", "(9 [] -1)"} {
		both(nil, of, value(text), api.ErrForm)
		both(right, of, value(text), api.ErrForm)
	}
	both(right, of, vals.Value{}, api.ErrForm)
	for _, fuel := range fuels {
		switch {
		case fuel < 0 || fuel > MaxFuel:
			refuses(t, right, of, v, fuel, api.ErrArg)
			refuses(t, nil, of, v, fuel, api.ErrArg)
		case fuel < 2:
			refuses(t, right, of, v, fuel, api.ErrFuel)
		default:
			if w, n, e := Run(right, of, v, fuel); told(w) != "(9)" || n != 2 || e != api.OK {
				t.Errorf("Run(.., %d): %s, %d, %v", fuel, told(w), n, e)
			}
		}
	}
}

func TestFuel(t *testing.T) { // 20.1, 20.4: ErrFuel just if there is less than the cost, wherever it ends
	const of = "r(x:i8,a:l3(r(b:l3(r(c:i8,d:i8)),e:i8)),y:r(z:i8))"
	const from = "(1 [([(1 2) (3 1)] 5) ([] 6) ([(7 8)] 9)] (4))"
	const script = "drop x/add w i8 7/each a/sort b d/each b/drop d/end/share b k i c/rename e f/end/share a g h f/sort g f/nest p g w/lift y/lift p"
	steps := 2 + 1 + (3 + 3) + 3 + 3 + (3 + 3) + 3 + (1 + 3) + (1 + 3) + 3
	runs(t, script, of, from, "([([(0) (1)] [(3) (1)] 0) ([] [] 1) ([(0)] [(7)] 2)] 4 [(5) (6) (9)] 7)", steps)
	for fuel := range steps {
		refuses(t, parsed(script), typed(of), value(from), fuel, api.ErrFuel)
	}
}

// rowsOf is a value with that many rows, each of which has as many in it.
func rowsOf(rows, inner int) vals.Value {
	of := func(row vals.Value, n int) vals.Value {
		return vals.Value{Kind: types.List, Kids: slices.Repeat([]vals.Value{row}, n)}
	}
	row := vals.Value{Kind: types.Rec, Kids: []vals.Value{of(value("(1)"), inner)}}
	return vals.Value{Kind: types.Rec, Kids: []vals.Value{of(row, rows)}}
}

func TestMaxFuel(t *testing.T) { // 20.1, 20.2: MaxFuel steps are enough for that many, and no more
	const of = "r(rows:l96(r(in:l96(r(a:i8)))))"
	begin := "each rows/each in/rename a b/end/end/" + strings.Repeat("each rows/rename in io/end/each rows/rename io in/end/", 3) + "each rows/rename in io/end/" // 1 + 96 + 96 * 96, and 7 * 97
	v := rowsOf(96, 96)
	for more := range 12 {
		l := parsed(begin + strings.Repeat("each rows/end/", more))
		want := 9992 + more
		n, e := Cost(l, typed(of), v)
		_, m, f := Run(l, typed(of), v, MaxFuel)
		if want > 10000 && (n != 0 || m != 0 || e != api.ErrFuel || f != api.ErrFuel) || want <= 10000 && (n != want || m != want || e != api.OK || f != api.OK) {
			t.Errorf("%d steps: %d, %v, %d, %v", want, n, e, m, f)
		}
		refuses(t, l, typed(of), v, min(want-1, MaxFuel), api.ErrFuel)
	}
	for _, script := range []string{"each rows/sort in a/end/each rows/sort in a/end", "each rows/share in to k a/end/each rows/sort in k/end", strings.Repeat("each rows/each in/widen a 8/end/end/", 20)} {
		costsNothing(t, parsed(script), typed(of), v, api.ErrFuel)
		refuses(t, parsed(script), typed(of), v, MaxFuel, api.ErrFuel)
	}
	does(t, parsed("each rows/sort in a/end"), typed(of), v, told(v), 1+96+96*96)
}

func TestLongNames(t *testing.T) { // the bound: a statement may have any many Names
	names := slices.Repeat([]string{"a", "c"}, 300000)
	does(t, []lang.Stmt{{Op: lang.Sort, Name: "rows", Names: names}}, typed(small), value(smallOnes), "(9 [(1 'y' 2) (3 '' 0) (3 'x' 1)] 7)", 4)
}

func TestScript(t *testing.T) { // 20.1: one that a system is changed by
	runs(t, "share fds opens open kind obj off/rename fds slots/each areas/add prot i8 3/end/sort areas pid first/rename areas spans",
		"r(fds:l36(r(pid:i8,slot:i8,kind:i8,obj:i8,off:i8)),areas:l24(r(pid:i8,first:i8,count:i8)),pages:l96(r(pid:i8,page:i8,frame:i8)))",
		"([(1 0 1 0 0) (1 1 2 3 7) (2 0 1 0 0)] [(2 4 1) (1 8 2) (1 2 3)] [(1 0 5)])",
		"([(1 0 0) (1 1 1) (2 0 2)] [(1 2 3 3) (1 8 2 3) (2 4 1 3)] [(1 0 5)] [(1 0 0) (2 3 7) (1 0 0)])", 4+1+1+3+4+1)
}
