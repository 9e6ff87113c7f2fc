package check

import (
	"math"
	"slices"
	"strconv"
	"strings"
	"testing"

	"imago/api"
	"imago/lang"
	"imago/types"
)

// typed is a text's type.
func typed(s string) types.Type {
	x, e := types.Parse(s)
	if e != api.OK {
		panic(s)
	}
	return x
}

// parsed is the script of lines that are told between slashes.
func parsed(s string) []lang.Stmt {
	l, bad := lang.Parse(strings.ReplaceAll(s, "/", "\n"))
	if bad != 0 {
		panic(s)
	}
	return l
}

// zero tells whether a type is the zero value.
func zero(t types.Type) bool { return types.Same(t, types.Type{}) }

// answers wants what Make and, of a single statement, One answer; of an error an empty text.
func answers(t *testing.T, l []lang.Stmt, from types.Type, to string, number int, want api.Errno) {
	t.Helper()
	is := func(x types.Type) bool {
		if want != api.OK {
			return zero(x) // R4
		}
		text, e := types.Print(x) // 19.3
		return text == to && e == api.OK && x.Kind == types.Rec
	}
	if x, n, e := Make(l, from); !is(x) || n != number || e != want {
		t.Errorf("Make(%.200v, %.200v): %.200v, %d, %v, not %s, %d, %v", l, from, x, n, e, to, number, want)
	}
	if len(l) != 1 {
		return
	}
	if x, e := One(l[0], from); !is(x) || e != want {
		t.Errorf("One(%.200v, %.200v): %.200v, %v, not %s, %v", l[0], from, x, e, to, want)
	}
}

// makes wants that a script makes that of a type.
func makes(t *testing.T, script, from, to string) {
	t.Helper()
	answers(t, parsed(script), typed(from), to, 0, api.OK)
}

// wrong wants that the statement of that number is the first that is wrong.
func wrong(t *testing.T, script, from string, number int) {
	t.Helper()
	answers(t, parsed(script), typed(from), "", number, api.ErrForm)
}

const small = "r(pid:i8,rows:l4(r(a:i8,b:t3,c:i16)),n:i8)"

// record is a Rec's text with that many Ints, whose names begin with a letter.
func record(letter string, n int) string {
	var fields []string
	for i := range n {
		fields = append(fields, letter+string(rune('a'+i))+":i8")
	}
	return "r(" + strings.Join(fields, ",") + ")"
}

func TestExample(t *testing.T) { // the chapter's example
	makes(t, "nest p a b", "r(a:i8,b:i16)", "r(p:r(a:i8,b:i16))")
}

func TestNothing(t *testing.T) { // 19.1: a script without statements makes the type itself
	for _, text := range []string{small, "r(a:i8)", "r(a:r(a:r(a:r(a:r(a:i8)))))", record("x", 12)} {
		makes(t, "", text, text)
		answers(t, []lang.Stmt{}, typed(text), text, 0, api.OK) // R2
	}
}

func TestRename(t *testing.T) { // 19.1
	makes(t, "rename pid id", small, "r(id:i8,rows:l4(r(a:i8,b:t3,c:i16)),n:i8)")
	makes(t, "rename rows abcdefgh", small, "r(pid:i8,abcdefgh:l4(r(a:i8,b:t3,c:i16)),n:i8)")
	makes(t, "rename n a", small, "r(pid:i8,rows:l4(r(a:i8,b:t3,c:i16)),a:i8)") // an element's field is another thing
	makes(t, "rename a b", "r(a:t0)", "r(b:t0)")
	makes(t, "rename a c/rename b a/rename c b", "r(a:i8,b:t1)", "r(b:i8,a:t1)")
	for _, script := range []string{"rename pid n", "rename pid rows", "rename pid pid", "rename n pid", "rename x y", "rename a b", "rename x x", "rename x n", "rename p q"} {
		wrong(t, script, small, 1)
	}
	wrong(t, "rename a b/rename a c", "r(a:i8)", 2)
}

func TestDrop(t *testing.T) { // 19.1
	makes(t, "drop pid", small, "r(rows:l4(r(a:i8,b:t3,c:i16)),n:i8)")
	makes(t, "drop rows", small, "r(pid:i8,n:i8)")
	makes(t, "drop n", small, "r(pid:i8,rows:l4(r(a:i8,b:t3,c:i16)))")
	makes(t, "drop rows/drop pid", small, "r(n:i8)")
	wrong(t, "drop a", "r(a:i8)", 1) // the only one
	wrong(t, "drop n/drop rows/drop pid", small, 3)
	wrong(t, "drop b", "r(a:i8)", 1)
	wrong(t, "drop a", small, 1)
	wrong(t, "drop n/drop n", small, 2)
}

func TestAdd(t *testing.T) { // 19.1
	for _, of := range []string{"i8", "i16", "i32", "t0", "t255", "l0(i8)", "l96(r(a:i8))", "r(pid:i8,n:i8)"} {
		makes(t, "add x "+of+" 0", small, strings.TrimSuffix(small, ")")+",x:"+of+")")
	}
	for of, most := range map[string]int{"i8": 255, "i16": 65535, "i32": 4294967295} {
		for _, n := range []int{0, 1, 2, 127, 128, 254, 255, 256, 257, 512, 65534, 65535, 65536, 65537, 1 << 24, 1 << 31, 4294967294, 4294967295} {
			if script := "add b " + of + " " + strconv.Itoa(n); n <= most {
				makes(t, script, "r(a:t3)", "r(a:t3,b:"+of+")")
			} else {
				wrong(t, script, "r(a:t3)", 1)
			}
		}
	}
	for _, of := range []string{"t0", "t3", "t255", "l0(i8)", "l3(i8)", "r(a:i8)", "l1(r(a:i8))"} {
		for _, n := range []string{"1", "3", "255", "4294967295"} {
			wrong(t, "add x "+of+" "+n, small, 1)
		}
	}
	for _, name := range []string{"pid", "rows", "n"} {
		wrong(t, "add "+name+" i8 0", small, 1)
	}
	wrong(t, "add x i8 0/add x i8 0", small, 2)
	makes(t, "add a i8 0", small, strings.TrimSuffix(small, ")")+",a:i8)")
}

func TestWidths(t *testing.T) { // 19.1: what comes of it has at most 12 fields
	makes(t, "add y i8 0", record("x", 11), strings.TrimSuffix(record("x", 11), ")")+",y:i8)")
	wrong(t, "add y i8 0", record("x", 12), 1)
	wrong(t, "add y i8 0/add z i8 0/drop y", record("x", 11), 2)
	rows := func(n int) string { return strings.TrimSuffix(record("x", n), ")") + ",rows:l3(r(a:i8)))" }
	makes(t, "share rows to k a", rows(10), strings.TrimSuffix(record("x", 10), ")")+",rows:l3(r(k:i16)),to:l3(r(a:i8)))")
	wrong(t, "share rows to k a", rows(11), 1)
	full := strings.TrimSuffix(record("x", 3), ")")
	makes(t, "lift p", full+",p:"+record("y", 9)+")", full+","+strings.TrimPrefix(record("y", 9), "r("))
	wrong(t, "lift p", full+",p:"+record("y", 10)+")", 1)
	makes(t, "lift p", "r(p:"+record("y", 12)+")", record("y", 12))
	makes(t, "nest p xa", record("x", 12), "r("+strings.TrimSuffix(strings.TrimPrefix(record("x", 12), "r(xa:i8,"), ")")+",p:r(xa:i8))")
	makes(t, "each rows/add y i8 0/end", "r(rows:l3("+record("x", 11)+"))", "r(rows:l3("+strings.TrimSuffix(record("x", 11), ")")+",y:i8)))")
	wrong(t, "each rows/add y i8 0/end", "r(rows:l3("+record("x", 12)+"))", 2)
}

func TestWiden(t *testing.T) { // 19.1
	for _, from := range []int{8, 16, 32} {
		text := "r(x:t1,a:i" + strconv.Itoa(from) + ",y:t1)"
		for _, to := range []int{0, 1, 7, 8, 9, 12, 15, 16, 17, 24, 31, 32, 33, 48, 64, 128, 255, 256, 264, 4294967295} {
			script := "widen a " + strconv.Itoa(to)
			if to >= from && (to == 8 || to == 16 || to == 32) {
				makes(t, script, text, "r(x:t1,a:i"+strconv.Itoa(to)+",y:t1)")
			} else {
				wrong(t, script, text, 1)
			}
		}
	}
	for _, script := range []string{"widen t 8", "widen t 32", "widen l 32", "widen r 8", "widen r 16", "widen x 32", "widen a 16"} {
		wrong(t, script, "r(i:i8,t:t8,l:l8(i8),r:r(a:i8))", 1)
	}
	makes(t, "widen a 8/widen a 16/widen a 16/widen a 32", "r(a:i8)", "r(a:i32)")
	wrong(t, "widen a 32/widen a 16", "r(a:i8)", 2)
}

func TestEach(t *testing.T) { // 19.1
	makes(t, "each rows/end", small, small)
	makes(t, "each rows/drop b/widen a 16/end", small, "r(pid:i8,rows:l4(r(a:i16,c:i16)),n:i8)")
	makes(t, "each rows/rename a pid/add n t3 0/end", small, "r(pid:i8,rows:l4(r(pid:i8,b:t3,c:i16,n:t3)),n:i8)")
	makes(t, "each rows/drop a/end", "r(rows:l0(r(a:i8,b:i8)),more:l96(r(a:i8)))", "r(rows:l0(r(b:i8)),more:l96(r(a:i8)))")
	makes(t, "each a/each b/widen c 32/end/rename b d/end/rename a e", "r(a:l3(r(b:l2(r(c:i8)))))", "r(e:l3(r(d:l2(r(c:i32)))))")
	for _, name := range []string{"i", "t", "l", "ll", "r", "x", "a"} {
		wrong(t, "each "+name+"/end", "r(i:i8,t:t3,l:l3(i8),ll:l3(l3(r(a:i8))),r:r(a:i8),rows:l3(r(a:i8)))", 1)
		wrong(t, "each "+name+"/widen z 9/end", "r(i:i8,t:t3,l:l3(i8),ll:l3(l3(r(a:i8))),r:r(a:i8),rows:l3(r(a:i8)))", 1)
	}
	wrong(t, "each rows/drop a/end", "r(rows:l3(r(a:i8)))", 2)
}

func TestShare(t *testing.T) { // 19.1
	makes(t, "share rows to key c a", small, "r(pid:i8,rows:l4(r(b:t3,key:i16)),n:i8,to:l4(r(c:i16,a:i8)))")
	makes(t, "share rows to key b", small, "r(pid:i8,rows:l4(r(a:i8,c:i16,key:i16)),n:i8,to:l4(r(b:t3)))")
	makes(t, "share rows to key a b c", small, "r(pid:i8,rows:l4(r(key:i16)),n:i8,to:l4(r(a:i8,b:t3,c:i16)))")
	makes(t, "share rows to a a", small, "r(pid:i8,rows:l4(r(b:t3,c:i16,a:i16)),n:i8,to:l4(r(a:i8)))") // not among what is left
	makes(t, "share rows a a a", small, "r(pid:i8,rows:l4(r(b:t3,c:i16,a:i16)),n:i8,a:l4(r(a:i8)))")
	makes(t, "share rows to n c", small, "r(pid:i8,rows:l4(r(a:i8,b:t3,n:i16)),n:i8,to:l4(r(c:i16)))")
	makes(t, "share rows to to a", "r(rows:l0(r(a:l2(i8))))", "r(rows:l0(r(to:i16)),to:l0(r(a:l2(i8))))")
	makes(t, "share rows to k a", "r(rows:l96(r(a:r(a:i8))))", "r(rows:l96(r(k:i16)),to:l96(r(a:r(a:i8))))")
	for _, script := range []string{"share rows n k a", "share rows pid k a", "share rows rows k a", // TO is a field's name
		"share rows to b a", "share rows to c a b", // KEY is among what is left
		"share rows to k a a", "share rows to k a b a", "share rows to a a a", // like FIELDs
		"share rows to k d", "share rows to k a d", "share rows to k d a", "share rows to k pid", "share rows to k rows", "share rows to k k", // none of its fields
		"share pid to k a", "share x to k a", "share a to k a", "share to rows k a"} {
		wrong(t, script, small, 1)
	}
	for _, name := range []string{"i", "t", "l", "ll", "r"} {
		wrong(t, "share "+name+" to k a", "r(i:i8,t:t3,l:l3(i8),ll:l3(l3(r(a:i8))),r:r(a:i8))", 1)
	}
	wrong(t, "share rows to k a/share rows to kk b", small, 2)
	makes(t, "share rows to k a/share rows too kk k", small, "r(pid:i8,rows:l4(r(b:t3,c:i16,kk:i16)),n:i8,to:l4(r(a:i8)),too:l4(r(k:i16)))")
}

func TestSort(t *testing.T) { // 19.1: nothing changes
	for _, script := range []string{"sort rows a", "sort rows c", "sort rows c a", "sort rows a a", "sort rows a c a", "sort rows a/sort rows c"} {
		makes(t, script, small, small)
	}
	makes(t, "sort rows a", "r(rows:l0(r(a:i32)))", "r(rows:l0(r(a:i32)))")
	for _, script := range []string{"sort rows b", "sort rows a b", "sort rows b a", "sort rows d", "sort rows a d", "sort rows pid", "sort rows rows", "sort pid a", "sort x a", "sort a a"} {
		wrong(t, script, small, 1)
	}
	for _, name := range []string{"t", "l", "r"} {
		wrong(t, "sort rows "+name, "r(rows:l3(r(t:t3,l:l3(i8),r:r(a:i8),a:i8)))", 1)
	}
	for _, name := range []string{"i", "t", "l", "ll", "r"} {
		wrong(t, "sort "+name+" a", "r(i:i8,t:t3,l:l3(i8),ll:l3(l3(r(a:i8))),r:r(a:i8))", 1)
	}
}

func TestNest(t *testing.T) { // 19.1
	makes(t, "nest p n pid", small, "r(rows:l4(r(a:i8,b:t3,c:i16)),p:r(n:i8,pid:i8))")
	makes(t, "nest p pid n", small, "r(rows:l4(r(a:i8,b:t3,c:i16)),p:r(pid:i8,n:i8))")
	makes(t, "nest p rows", small, "r(pid:i8,n:i8,p:r(rows:l4(r(a:i8,b:t3,c:i16))))")
	makes(t, "nest p n rows pid", small, "r(p:r(n:i8,rows:l4(r(a:i8,b:t3,c:i16)),pid:i8))")
	makes(t, "nest n n", small, "r(pid:i8,rows:l4(r(a:i8,b:t3,c:i16)),n:r(n:i8))") // none of the names left
	makes(t, "nest pid n pid", small, "r(rows:l4(r(a:i8,b:t3,c:i16)),pid:r(n:i8,pid:i8))")
	makes(t, "nest p a", "r(a:i8)", "r(p:r(a:i8))")
	for _, script := range []string{"nest pid n", "nest rows pid n", "nest n pid", // among the names left
		"nest p n n", "nest p n pid n", "nest n n n", // like FIELDs
		"nest p x", "nest p n x", "nest p x n", "nest p p", "nest p a"} {
		wrong(t, script, small, 1)
	}
}

func TestLift(t *testing.T) { // 19.1
	const nested = "r(x:t1,p:r(a:i8,b:r(c:i8)),y:t1)"
	makes(t, "lift p", nested, "r(x:t1,a:i8,b:r(c:i8),y:t1)")
	makes(t, "lift p/lift b", nested, "r(x:t1,a:i8,c:i8,y:t1)")
	makes(t, "lift p", "r(p:r(a:i8))", "r(a:i8)")
	makes(t, "lift p", "r(p:r(p:i8))", "r(p:i8)") // the Rec is gone, its name too
	makes(t, "lift p", "r(p:r(b:i8,p:r(p:i8)),a:i8)", "r(b:i8,p:r(p:i8),a:i8)")
	makes(t, "lift p", "r(a:i8,p:r(b:i8,p:i8))", "r(a:i8,b:i8,p:i8)")
	makes(t, "nest p n pid/lift p", small, "r(rows:l4(r(a:i8,b:t3,c:i16)),n:i8,pid:i8)")
	for _, inner := range []string{"r(x:i8)", "r(y:i8)", "r(a:i8,x:i8)", "r(y:i8,p:i8)"} { // a name would stand twice
		wrong(t, "lift p", "r(x:t1,p:"+inner+",y:t1)", 1)
	}
	for _, name := range []string{"i", "t", "l", "rows", "q", "z"} {
		wrong(t, "lift "+name, "r(i:i8,t:t3,l:l3(i8),rows:l3(r(z:i8)),r:r(q:i8))", 1)
	}
	wrong(t, "lift p/lift p", nested, 2)
}

func TestDepths(t *testing.T) { // 19.1: what comes of it is at most 6 deep
	makes(t, "add x l1(l1(l1(l1(i8)))) 0", "r(a:i8)", "r(a:i8,x:l1(l1(l1(l1(i8)))))")
	wrong(t, "add x l1(l1(l1(l1(l1(i8))))) 0", "r(a:i8)", 1)
	makes(t, "nest p a", "r(a:l1(l1(l1(i8))))", "r(p:r(a:l1(l1(l1(i8)))))")
	wrong(t, "nest p a", "r(a:l1(l1(l1(l1(i8)))))", 1)
	wrong(t, "nest p b/nest q p/nest r q/nest s r/nest p s/lift p", "r(a:i8,b:i8)", 5)
	const rows = "r(rows:l1(r(a:i8)))"
	makes(t, "each rows/add x l1(l1(i8)) 0/end", rows, "r(rows:l1(r(a:i8,x:l1(l1(i8)))))")
	for _, x := range []string{"l1(l1(l1(i8)))", "l1(l1(l1(l1(i8))))"} { // right by itself, but not where it stands: it is the each that makes that
		wrong(t, "each rows/add x "+x+" 0/end", rows, 1)
		wrong(t, "rename rows r/each r/rename a b/add x "+x+" 0/end/drop r", rows, 2)
		makes(t, "each rows/add x "+x+" 0/drop x/end", rows, rows)
	}
	wrong(t, "each rows/add x l1(l1(l1(l1(l1(i8))))) 0/end", rows, 2)
	const inner = "r(a:l1(r(b:l1(r(c:i8)))))"
	makes(t, "each a/each b/add x i8 0/end/end", inner, "r(a:l1(r(b:l1(r(c:i8,x:i8)))))")
	wrong(t, "each a/each b/add x l1(i8) 0/end/end", inner, 1)
	wrong(t, "each a/each b/add x l1(l1(i8)) 0/end/end", inner, 1)
	wrong(t, "each a/each b/add x l1(l1(l1(i8))) 0/end/end", inner, 2)
	wrong(t, "each a/each b/add x l1(l1(l1(l1(i8)))) 0/end/end", inner, 2)
	wrong(t, "each a/each b/add x l1(l1(l1(l1(l1(i8))))) 0/end/end", inner, 3)
}

// types99 is a Rec's text with 99 types, or less by that.
func types99(less int) string {
	fields := []string{}
	for _, letter := range []string{"a", "b", "c", "d", "e", "f", "g"} {
		fields = append(fields, letter+":"+record(letter, 12)) // 13 types
	}
	return "r(" + strings.Join(fields, ",") + ",rows:l3(" + record("x", 5-less) + "))" // 1 + 91 + 2 + 5
}

func TestManyTypes(t *testing.T) { // 19.1: what comes of it has at most 100 types
	with := func(text, more string) string { return strings.TrimSuffix(text, ")") + "," + more + ")" }
	makes(t, "add y i8 0", types99(0), with(types99(0), "y:i8"))
	wrong(t, "add y l1(i8) 0", types99(0), 1)
	makes(t, "add y l1(i8) 0", types99(1), with(types99(1), "y:l1(i8)"))
	wrong(t, "add y i8 0/add z i8 0", types99(0), 2)
	makes(t, "add y i8 0/drop y/add z i8 0", types99(0), with(types99(0), "z:i8"))
	lists := func(less int) string { return strings.Replace(types99(less), "rows:l3(r(xa:i8", "rows:l3(r(y:i8", 1) }
	makes(t, "share rows to k y", lists(2), strings.Replace(strings.Replace(with(lists(2), "to:l3(r(y:i8))"), "r(y:i8,", "r(", 1), "xc:i8)", "xc:i8,k:i16)", 1))
	wrong(t, "share rows to k y", lists(1), 1) // three more
	wrong(t, "each rows/add z i8 0/add zz i8 0/end", types99(0), 1)
	makes(t, "each rows/add z i8 0/add zz i8 0/drop z/drop zz/end", types99(0), types99(0))
	wrong(t, "add y i8 0/each rows/drop xa/nest p xb xc/end/nest q rows/each x/end", types99(0), 5)
}

func TestNumbers(t *testing.T) { // 19.1: from 1 on, each counted ahead of those in its Body
	const from = "r(a:l3(r(b:l3(r(c:i8,d:i8)),e:i8)),f:i8)"
	const right = "rename f g/each a/each b/drop d/widen c 16/end/rename e h/end/add k i8 0"
	makes(t, right, from, "r(a:l3(r(b:l3(r(c:i16)),h:i8)),g:i8,k:i8)")
	for number, script := range map[int]string{
		1: "rename x g/each a/each b/drop d/widen c 16/end/rename e h/end/add k i8 0",
		2: "rename f g/each x/each b/drop d/widen c 16/end/rename e h/end/add k i8 0",
		3: "rename f g/each a/each x/drop d/widen c 16/end/rename e h/end/add k i8 0",
		4: "rename f g/each a/each b/drop x/widen c 16/end/rename e h/end/add k i8 0",
		5: "rename f g/each a/each b/drop d/widen c 17/end/rename e h/end/add k i8 0",
		6: "rename f g/each a/each b/drop d/widen c 16/end/rename x h/end/add k i8 0",
		7: "rename f g/each a/each b/drop d/widen c 16/end/rename e h/end/add g i8 0",
		8: right + "/drop x",
	} {
		wrong(t, script, from, number)
		wrong(t, script+"/drop y/each y/end", from, number) // the first one
	}
	wrong(t, "each a/end/each a/each b/end/end/drop x", from, 4)
	long := strings.Repeat("rename f g/rename g f/", 29)
	makes(t, long+"rename f g/drop a", from, "r(g:i8)")
	wrong(t, long+"rename f g/drop f", from, 60)
	wrong(t, strings.Repeat("each a/end/", 59)+"each f/end", from, 60)
}

// wrongTypes are types that are not right, with the errors that types.Check has for them.
func wrongTypes() map[*types.Type]api.Errno {
	deep := typed("r(a:i8)")
	for range 6 {
		deep = types.Type{Kind: types.Rec, Names: []string{"a"}, Kids: []types.Type{deep}}
	}
	wide := types.Type{Kind: types.Rec}
	for i := range 101 {
		wide.Names, wide.Kids = append(wide.Names, "a"+strconv.Itoa(i)), append(wide.Kids, typed("i8"))
	}
	int8s := []types.Type{typed("i8"), typed("i8")}
	all := map[*types.Type]api.Errno{&deep: api.ErrLong, &wide: api.ErrLong}
	for _, x := range []types.Type{{}, {Kind: types.Int}, {Kind: types.Int, N: 9}, {Kind: types.Text, N: -1}, {Kind: types.List, N: 97, Kids: int8s[:1]}, {Kind: types.List, N: 3}, {Kind: types.Rec}, {Kind: types.Rec, N: 1, Names: []string{"a"}, Kids: int8s[:1]},
		{Kind: types.Rec, Names: []string{"a", "a"}, Kids: int8s}, {Kind: types.Rec, Names: []string{"a", "b"}, Kids: int8s[:1]}, {Kind: types.Rec, Names: []string{"a"}, Kids: int8s}, {Kind: types.Rec, Names: []string{"A"}, Kids: int8s[:1]}, {Kind: 5}, {Kind: -1}, {Kind: math.MinInt, N: math.MaxInt}} {
		all[&x] = api.ErrForm
	}
	return all
}

// scripts are scripts with the errors that lang.Print has for them.
func scripts() map[*[]lang.Stmt]api.Errno {
	drop := lang.Stmt{Op: lang.Drop, Name: "a"}
	long := slices.Repeat([]lang.Stmt{drop}, 61)
	deep := []lang.Stmt{drop}
	for range 5 {
		deep = []lang.Stmt{{Op: lang.Each, Name: "a", Body: deep}}
	}
	all := map[*[]lang.Stmt]api.Errno{&long: api.ErrLong, &deep: api.ErrLong}
	for _, s := range []lang.Stmt{{}, {Op: 10}, {Op: -1}, {Op: math.MaxInt}, {Op: lang.Drop}, {Op: lang.Drop, Name: "A"}, {Op: lang.Drop, Name: "pid", To: "n"}, {Op: lang.Drop, Name: "pid", Names: []string{"n"}}, {Op: lang.Drop, Name: "pid", N: 1}, {Op: lang.Drop, Name: "pid", Type: typed("i8")}, {Op: lang.Drop, Name: "pid", Body: []lang.Stmt{drop}},
		{Op: lang.Rename, Name: "pid"}, {Op: lang.Rename, Name: "pid", To: "abcdefghi"}, {Op: lang.Add, Name: "x"}, {Op: lang.Add, Name: "x", Type: typed("i8"), N: -1}, {Op: lang.Add, Name: "x", Type: types.Type{Kind: types.Int, N: 9}}, {Op: lang.Widen, Name: "pid", N: -8}, {Op: lang.Widen, Name: "pid", N: 1 << 32},
		{Op: lang.Share, Name: "rows", To: "to"}, {Op: lang.Share, Name: "rows", To: "to", Names: []string{"k"}}, {Op: lang.Share, Name: "rows", To: "to", Names: []string{"k", ""}}, {Op: lang.Sort, Name: "rows"}, {Op: lang.Nest, Name: "p"}, {Op: lang.Nest, Name: "p", Names: []string{"pid", "1"}}, {Op: lang.Each, Name: "rows", N: 1}} {
		l := []lang.Stmt{s}
		behind := []lang.Stmt{{Op: lang.Drop, Name: "x"}, {Op: lang.Each, Name: "y", Body: []lang.Stmt{s}}} // a form is asked for ahead of what is made
		all[&l], all[&behind] = api.ErrForm, api.ErrForm
	}
	return all
}

func TestErrors(t *testing.T) { // 19.1, 19.2, R4: types.Check's error, no Rec, lang.Print's error, in this order, and no number
	right, bad := parsed("add x i8 0"), parsed("drop x")
	for of, e := range wrongTypes() {
		for _, l := range [][]lang.Stmt{nil, right, bad} {
			answers(t, l, *of, "", 0, e)
		}
	}
	others := []types.Type{typed("i8"), typed("t3"), typed("l3(r(x:i8))"), typed("l3(i8)")}
	for _, of := range others {
		for _, l := range [][]lang.Stmt{nil, right, bad} {
			answers(t, l, of, "", 0, api.ErrArg)
		}
	}
	for l, e := range scripts() {
		if _, printed := lang.Print(*l); printed != e {
			t.Errorf("Print(%v): %v", *l, printed)
		}
		answers(t, *l, typed(small), "", 0, e)
		answers(t, *l, others[0], "", 0, api.ErrArg)
		for of, e := range wrongTypes() {
			answers(t, *l, *of, "", 0, e)
		}
	}
}

func TestLongNames(t *testing.T) { // the bound: a statement may have any many Names
	many := slices.Repeat([]string{"a", "c"}, 500000)
	answers(t, []lang.Stmt{{Op: lang.Sort, Name: "rows", Names: many}}, typed(small), small, 0, api.OK)
	answers(t, []lang.Stmt{{Op: lang.Sort, Name: "rows", Names: append(many, "b")}}, typed(small), "", 1, api.ErrForm)
	answers(t, []lang.Stmt{{Op: lang.Nest, Name: "p", Names: many}}, typed(small), "", 1, api.ErrForm)
	answers(t, []lang.Stmt{{Op: lang.Share, Name: "rows", To: "to", Names: many}}, typed(small), "", 1, api.ErrForm)
}

func TestScript(t *testing.T) { // 19.1: one that a system is changed by
	const procs = "procs:l6(r(pid:i8,up:i8,prog:i8,ended:i8,status:i8,pc:i16,regs:l8(i16)))"
	const rest = "pages:l96(r(pid:i8,page:i8,frame:i8)),files:l4(r(id:i8,size:i8,blocks:l4(i8))),pipes:l3(r(id:i8,data:t16))"
	makes(t, "share fds opens open kind obj off/rename fds slots/each areas/add prot i8 3/end/sort areas pid first/rename areas spans",
		"r("+procs+",fds:l36(r(pid:i8,slot:i8,kind:i8,obj:i8,off:i8)),areas:l24(r(pid:i8,first:i8,count:i8)),"+rest+")",
		"r("+procs+",slots:l36(r(pid:i8,slot:i8,open:i16)),spans:l24(r(pid:i8,first:i8,count:i8,prot:i8)),"+rest+",opens:l36(r(kind:i8,obj:i8,off:i8)))")
}
