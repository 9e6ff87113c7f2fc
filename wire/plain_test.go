package wire

import (
	"math/rand/v2"
	"reflect"
	"slices"
	"strconv"
	"strings"
	"testing"

	"imago/api"
	"imago/types"
	"imago/vals"
)

// plainBody are the bytes of a value that fits, by the chapter's words.
func plainBody(v vals.Value, t types.Type) string {
	b := []byte{byte(v.Kind)}
	switch v.Kind {
	case 1:
		for left := t.N; left > 0; left -= 8 {
			b = append(b, byte(v.N>>(left-8)))
		}
		return string(b)
	case 2:
		return string(append(b, byte(len(v.S)))) + v.S
	}
	s := string(append(b, byte(len(v.Kids))))
	for i, kid := range v.Kids {
		s += plainBody(kid, t.Kids[min(i, len(t.Kids)-1)])
	}
	return s
}

// plainText is a right type's text.
func plainText(t types.Type) string {
	s := string(" itlr"[t.Kind])
	if t.Kind != 4 {
		s += strconv.Itoa(t.N)
	}
	for i, kid := range t.Kids {
		s += string("(,"[min(i, 1)])
		if t.Kind == 4 {
			s += t.Names[i] + ":"
		}
		s += plainText(kid)
	}
	if len(t.Kids) > 0 {
		s += ")"
	}
	return s
}

// plainBytes are a state's bytes, by the chapter's words, however many.
func plainBytes(s State) string {
	return header(s.Version, plainText(s.Type)) + plainBody(s.Value, s.Type)
}

// cleared is a value with nil in place of all empty lists.
func cleared(v vals.Value) vals.Value {
	c := vals.Value{Kind: v.Kind, N: v.N, S: v.S}
	for _, kid := range v.Kids {
		c.Kids = append(c.Kids, cleared(kid))
	}
	return c
}

// clearedType is a type with nil in place of all empty lists.
func clearedType(t types.Type) types.Type {
	c := types.Type{Kind: t.Kind, N: t.N}
	c.Names = append(c.Names, t.Names...)
	for _, kid := range t.Kids {
		c.Kids = append(c.Kids, clearedType(kid))
	}
	return c
}

func plainlySame(a, b State) bool {
	return a.Version == b.Version && reflect.DeepEqual(clearedType(a.Type), clearedType(b.Type)) && reflect.DeepEqual(cleared(a.Value), cleared(b.Value))
}

// dice throws what tests are made of; the same at each run.
type dice struct{ *rand.Rand }

func throw(seed uint64) dice { return dice{rand.New(rand.NewPCG(seed, 17))} }

// typ is a right type, at most that deep.
func (d dice) typ(depth int) types.Type {
	kind := 1 + d.IntN(4)
	if depth == 1 {
		kind = 1 + d.IntN(2)
	}
	x := types.Type{Kind: kind}
	switch kind {
	case types.Int:
		x.N = 8 << d.IntN(3)
	case types.Text:
		x.N = d.IntN(6)
	case types.List:
		x.N = d.IntN(5)
		x.Kids = []types.Type{d.typ(depth - 1)}
	case types.Rec:
		for i := range 1 + d.IntN(3) {
			x.Names = append(x.Names, string(rune('a'+i)))
			x.Kids = append(x.Kids, d.typ(depth-1))
		}
	}
	return x
}

// value is one that fits a type.
func (d dice) value(t types.Type) vals.Value {
	v := vals.Value{Kind: t.Kind}
	switch t.Kind {
	case types.Int:
		v.N = d.IntN(1 << t.N)
	case types.Text:
		for range d.IntN(t.N + 1) {
			v.S += string([]byte{byte(d.IntN(256))})
		}
	case types.List:
		for range d.IntN(t.N + 1) {
			v.Kids = append(v.Kids, d.value(t.Kids[0]))
		}
	case types.Rec:
		for _, kid := range t.Kids {
			v.Kids = append(v.Kids, d.value(kid))
		}
	}
	return v
}

// state is one of any version, of a type at most that deep.
func (d dice) state(depth int) State {
	for {
		if x := d.typ(depth); types.Check(x) == api.OK {
			return State{d.IntN(256), x, d.value(x)}
		}
	}
}

func TestManyStates(t *testing.T) { // 17.1 to 17.3: held against the plain words
	d := throw(1)
	short, long := 0, 0
	for range 8000 {
		s := d.state(1 + d.IntN(6))
		b := plainBytes(s)
		if got, e := Body(s.Value, s.Type); got != plainBody(s.Value, s.Type) || e != api.OK {
			t.Fatalf("Body: %q, %v", got, e)
		}
		if len(b) > 6000 {
			long++
			refuses(t, s, api.ErrLong)
			isNone(t, b, api.ErrLong)
			continue
		}
		short++
		isState(t, s, b)
	}
	if short < 7000 {
		t.Errorf("%d short ones, %d long ones", short, long)
	}
}

func TestManyMisfits(t *testing.T) { // 17.1: values of other types
	d := throw(2)
	misfits := 0
	for range 8000 {
		s, other := d.state(1+d.IntN(3)), d.state(1+d.IntN(3))
		s.Value = other.Value
		if !vals.Fits(s.Value, s.Type) {
			misfits++
			noBody(t, s.Value, s.Type)
		} else {
			isState(t, s, plainBytes(s))
		}
	}
	if misfits < 3000 {
		t.Error(misfits)
	}
}

// told wants that bytes are read as a state with just those bytes, or as none; it tells whether they are one's.
func told(t *testing.T, b string) bool {
	t.Helper()
	s, e := Read(b)
	if e != api.OK {
		isNone(t, b, api.ErrForm)
		return false
	}
	if s.Version < 0 || s.Version > 255 || types.Check(s.Type) != api.OK || !vals.Fits(s.Value, s.Type) || plainBytes(s) != b {
		t.Fatalf("Read(%q): %v", b, s)
	}
	if got, e := Bytes(s); got != b || e != api.OK {
		t.Fatalf("Bytes: %q, %v, not %q", got, e, b)
	}
	return true
}

func TestChangedBytes(t *testing.T) { // 17.3: no other bytes are read as the same
	d := throw(3)
	right := 0
	for range 3000 {
		b := plainBytes(d.state(1 + d.IntN(4)))
		if len(b) > 300 {
			continue
		}
		for range 20 {
			at, x := d.IntN(len(b)+1), string([]byte{byte(d.IntN(6))})
			if d.IntN(2) == 0 {
				x = string([]byte{byte(d.IntN(256))})
			}
			changed := []string{b[:at] + x + b[at:], b[at:]}
			if at < len(b) {
				changed = append(changed, b[:at], b[:at]+b[at+1:], b[:at]+x+b[at+1:], b[:at]+b[at:at+1]+b[at:])
			}
			for _, c := range changed {
				if told(t, c) && c != b {
					right++
				}
			}
		}
	}
	if right < 1000 {
		t.Errorf("%d other states", right)
	}
}

func TestEachByteChanged(t *testing.T) { // 17.2, 17.3: each byte of some states, made into each other one
	for _, of := range []string{"i8", "i16", "t3", "l2(i8)", "r(a:i8,b:t2)", "l3(r(a:i8,b:l2(t1)))"} {
		x := typed(t, of)
		b := plainBytes(State{7, x, greatest(x)})
		told(t, b)
		for at := range len(b) {
			for to := range 256 {
				told(t, b[:at]+string([]byte{byte(to)})+b[at+1:])
			}
		}
	}
}

func TestCutAndLonger(t *testing.T) { // 17.2, 17.4: no state's bytes begin with another one's
	d := throw(4)
	for range 1500 {
		b := plainBytes(d.state(1 + d.IntN(4)))
		if len(b) > 400 {
			continue
		}
		for at := range len(b) {
			isNone(t, b[:at], api.ErrForm)
		}
		for range 20 {
			more := make([]byte, 1+d.IntN(5))
			for i := range more {
				more[i] = byte(d.IntN(5))
			}
			isNone(t, b+string(more), api.ErrForm)
		}
		isNone(t, b+b, api.ErrForm)
	}
}

func TestUnlikeStates(t *testing.T) { // 17.4
	d := throw(5)
	var all []string
	seen := map[string]State{}
	for range 20000 {
		s := d.state(1 + d.IntN(3))
		s.Version %= 2
		b, e := Bytes(s)
		if e != api.OK {
			t.Fatal(e)
		}
		if other, there := seen[b]; !there {
			seen[b] = s
			all = append(all, b)
		} else if !plainlySame(s, other) {
			t.Fatalf("%v and %v have the same bytes", s, other)
		}
	}
	slices.Sort(all)
	for i, b := range all[1:] { // what begins with another one stands behind it
		if strings.HasPrefix(b, all[i]) {
			t.Fatalf("%q begins with %q", b, all[i])
		}
	}
	if len(all) < 5000 {
		t.Error(len(all))
	}
}

// shortBodies are the bodies of all values of some small types whose bytes are all among 0 to 4.
func shortBodies(of string) []string {
	var ints, texts []string
	for n := range 5 {
		ints = append(ints, "\x01"+string([]byte{byte(n)}))
		texts = append(texts, "\x02\x01"+string([]byte{byte(n)}))
	}
	texts = append(texts, "\x02\x00")
	var all []string
	switch of {
	case "i8":
		return ints
	case "t1":
		return texts
	case "l1(i8)":
		all = []string{"\x03\x00"}
		for _, i := range ints {
			all = append(all, "\x03\x01"+i)
		}
	case "l2(i8)":
		all = shortBodies("l1(i8)")
		for _, i := range ints {
			for _, j := range ints {
				all = append(all, "\x03\x02"+i+j)
			}
		}
	case "r(a:t1)":
		for _, s := range texts {
			all = append(all, "\x04\x01"+s)
		}
	case "r(a:i8,b:t1)":
		for _, i := range ints {
			for _, s := range texts {
				all = append(all, "\x04\x02"+i+s)
			}
		}
	case "l1(l1(i8))":
		all = []string{"\x03\x00"}
		for _, l := range shortBodies("l1(i8)") {
			all = append(all, "\x03\x01"+l)
		}
	}
	return all
}

func TestShortBodies(t *testing.T) { // 17.2, 17.3: all bodies of up to 7 bytes out of 0 to 4
	for _, of := range []string{"i8", "t1", "l1(i8)", "l2(i8)", "r(a:t1)", "r(a:i8,b:t1)", "l1(l1(i8))"} {
		want := map[string]int{}
		for _, body := range shortBodies(of) {
			want[body]++
		}
		right := 0
		ends := []string{""}
		for n := range 8 {
			var longer []string
			for _, body := range ends {
				_, e := Read(header(3, of) + body)
				if (e == api.OK) != (want[body] > 0) {
					t.Fatalf("Read of %s, %q: %v", of, body, e)
				}
				if e == api.OK {
					right++
				}
				for b := 0; b < 5 && n < 7; b++ {
					longer = append(longer, body+string([]byte{byte(b)}))
				}
			}
			ends = longer
		}
		if right != len(want) {
			t.Errorf("%s: %d of %d", of, right, len(want))
		}
	}
}

func TestThrownBytes(t *testing.T) { // 17.2, the bound: any bytes
	const few = "im\x00\x01\x02\x03\x04i8t1lr(a:)\xff"
	d := throw(6)
	for range 200000 {
		b := make([]byte, d.IntN(24))
		for i := range b {
			b[i] = few[d.IntN(len(few))]
		}
		told(t, string(b))
		told(t, header(1, "l4(t3)")+string(b))
		told(t, "im\x01"+string(b))
	}
}

// marksApart fills all lists of an answer, spare room too, each with a mark of its own, and tells whether each stands where it was put.
func marksApart(s State) bool {
	var names [][]string
	var kids [][]types.Type
	for waiting := []types.Type{s.Type}; len(waiting) > 0; waiting = waiting[1:] {
		x := waiting[0]
		names = append(names, x.Names[:cap(x.Names)])
		kids = append(kids, x.Kids[:cap(x.Kids)])
		waiting = append(waiting, x.Kids...)
	}
	var rows [][]vals.Value
	for waiting := []vals.Value{s.Value}; len(waiting) > 0; waiting = waiting[1:] {
		x := waiting[0]
		rows = append(rows, x.Kids[:cap(x.Kids)])
		waiting = append(waiting, x.Kids...)
	}
	return apart(names, func(i, j int) string { return strconv.Itoa(i) + "." + strconv.Itoa(j) }, func(a, b string) bool { return a == b }) &&
		apart(kids, func(i, j int) types.Type { return types.Type{Kind: i, N: j} }, types.Same) &&
		apart(rows, func(i, j int) vals.Value { return vals.Value{Kind: i, N: j} }, vals.Same)
}

// apart tells whether no two lists share anything: what is written last then stands in each.
func apart[T any](all [][]T, made func(i, j int) T, same func(a, b T) bool) bool {
	for i, l := range all {
		for j := range l {
			l[j] = made(i, j)
		}
	}
	for i, l := range all {
		for j := range l {
			if !same(l[j], made(i, j)) {
				return false
			}
		}
	}
	return true
}

func TestAnswersAreNew(t *testing.T) { // R3, R6: spare room too
	d := throw(7)
	for range 1500 {
		s := d.state(1 + d.IntN(5))
		b := plainBytes(s)
		if len(b) > 6000 {
			continue
		}
		one, _ := Read(b)
		other, _ := Read(b)
		if !marksApart(one) {
			t.Fatalf("Read(%q): lists share memory", b)
		}
		if !plainlySame(other, s) {
			t.Fatalf("Read(%q): two answers share memory", b)
		}
	}
}

func TestArgumentsStay(t *testing.T) { // R3: what is handed in is not changed, spare room too
	names := []string{"a", "b", "spare"}
	kids := []types.Type{{Kind: types.Int, N: 8}, {Kind: types.Text, N: 3}, {Kind: 77}}
	values := []vals.Value{integer(5), text("xy"), {Kind: 77}}
	s := State{1, types.Type{Kind: types.Rec, Names: names[:2], Kids: kids[:2]}, vals.Value{Kind: types.Rec, Kids: values[:2]}}
	for range 2 {
		isState(t, s, "im\x01\x00\x0cr(a:i8,b:t3)\x04\x02\x01\x05\x02\x02xy")
		if b, e := Body(s.Value, s.Type); b != "\x04\x02\x01\x05\x02\x02xy" || e != api.OK {
			t.Errorf("Body: %q, %v", b, e)
		}
	}
	if !slices.Equal(names, []string{"a", "b", "spare"}) || kids[2].Kind != 77 || values[2].Kind != 77 || values[0].N != 5 || values[1].S != "xy" {
		t.Error(names, kids, values)
	}
}
