package wire

import (
	"fmt"
	"math"
	"reflect"
	"strconv"
	"strings"
	"testing"

	"imago/api"
	"imago/types"
	"imago/vals"
)

func integer(n int) vals.Value { return vals.Value{Kind: types.Int, N: n} }

func text(s string) vals.Value { return vals.Value{Kind: types.Text, S: s} }

func list(kids ...vals.Value) vals.Value { return vals.Value{Kind: types.List, Kids: kids} }

func record(kids ...vals.Value) vals.Value { return vals.Value{Kind: types.Rec, Kids: kids} }

// many is a List of a value, so many times.
func many(n int, v vals.Value) vals.Value {
	l := list()
	for range n {
		l.Kids = append(l.Kids, v)
	}
	return l
}

// typed is a text's type.
func typed(t *testing.T, s string) types.Type {
	t.Helper()
	x, e := types.Parse(s)
	if e != api.OK {
		t.Fatalf("types.Parse(%q): %v", s, e)
	}
	return x
}

// header is what a state's bytes have ahead of its value's.
func header(version int, text string) string {
	return "im" + string([]byte{byte(version), byte(len(text) / 256), byte(len(text) % 256)}) + text
}

// isBody wants that those are a value's bytes, that those of its state have them too, and are read.
func isBody(t *testing.T, v vals.Value, of, body string) {
	t.Helper()
	x := typed(t, of)
	if got, e := Body(v, x); got != body || e != api.OK {
		t.Errorf("Body of %s: %.60q, %v, not %.60q", of, got, e, body)
	}
	if whole := header(9, of) + body; len(whole) <= 6000 {
		isState(t, State{9, x, v}, whole)
	}
}

// isState wants that those are a state's bytes, either way.
func isState(t *testing.T, s State, b string) {
	t.Helper()
	if got, e := Bytes(s); got != b || e != api.OK {
		t.Errorf("Bytes: %.60q, %v, not %.60q", got, e, b)
	}
	if n, e := Size(s); n != len(b) || e != api.OK {
		t.Errorf("Size: %d, %v, not %d", n, e, len(b))
	}
	if got, e := Read(b); !plainlySame(got, s) || e != api.OK {
		t.Errorf("Read(%.60q): %.200s, %v", b, fmt.Sprint(got), e)
	}
}

// isNone wants that those bytes are no state's.
func isNone(t *testing.T, b string, want api.Errno) {
	t.Helper()
	if got, e := Read(b); !reflect.DeepEqual(got, State{}) || e != want {
		t.Errorf("Read(%.100q): %.200s, %v, not %v", b, fmt.Sprint(got), e, want)
	}
}

// refuses wants that a state has no bytes.
func refuses(t *testing.T, s State, want api.Errno) {
	t.Helper()
	if b, e := Bytes(s); b != "" || e != want {
		t.Errorf("Bytes: %.60q, %v, not %v", b, e, want)
	}
	if n, e := Size(s); n != 0 || e != want {
		t.Errorf("Size: %d, %v, not %v", n, e, want)
	}
}

// noBody wants that a value has no bytes, and its state neither.
func noBody(t *testing.T, v vals.Value, x types.Type) {
	t.Helper()
	if b, e := Body(v, x); b != "" || e != api.ErrForm {
		t.Errorf("Body: %.60q, %v", b, e)
	}
	for _, version := range []int{0, 1, 255} {
		refuses(t, State{version, x, v}, api.ErrForm)
	}
	for _, version := range []int{-1, 256} { // ahead of what is wrong with the value
		refuses(t, State{version, x, v}, api.ErrArg)
	}
}

func TestExample(t *testing.T) { // the chapter's example
	isState(t, State{1, types.Type{Kind: types.Int, N: 16}, integer(300)}, "\x69\x6d\x01\x00\x03\x69\x31\x36\x01\x01\x2c")
}

func TestInts(t *testing.T) { // 17.1, 17.2: as many bytes as bits by 8, the highest first
	for n := range 256 {
		isBody(t, integer(n), "i8", "\x01"+string([]byte{byte(n)}))
	}
	for n, want := range map[int]string{0: "\x00\x00", 1: "\x00\x01", 255: "\x00\xff", 256: "\x01\x00", 4660: "\x12\x34", 65535: "\xff\xff"} {
		isBody(t, integer(n), "i16", "\x01"+want)
		isBody(t, integer(n), "i32", "\x01\x00\x00"+want)
	}
	for n, want := range map[int]string{65536: "\x00\x01\x00\x00", 1 << 24: "\x01\x00\x00\x00", 0x12345678: "\x12\x34\x56\x78", math.MaxInt32: "\x7f\xff\xff\xff", 1 << 31: "\x80\x00\x00\x00", math.MaxUint32: "\xff\xff\xff\xff"} {
		isBody(t, integer(n), "i32", "\x01"+want)
	}
}

func TestTexts(t *testing.T) { // 17.1, 17.2: how many bytes, and these, any ones
	all := make([]byte, 255)
	for n := range 256 {
		for i := range n {
			all[i] = byte(n + i)
		}
		s := string(all[:n])
		isBody(t, text(s), "t255", "\x02"+string([]byte{byte(n)})+s)
		isBody(t, text(s), "t"+strconv.Itoa(n), "\x02"+string([]byte{byte(n)})+s)
	}
	isBody(t, text(""), "t0", "\x02\x00")
	isBody(t, text("é\x00\n"), "t9", "\x02\x04\xc3\xa9\x00\n")
	isBody(t, text("im\x01\x00\x02i8\x01\x00"), "t9", "\x02\x09im\x01\x00\x02i8\x01\x00") // bytes of a state are bytes
}

func TestLists(t *testing.T) { // 17.1, 17.2: how many Kids, and their bytes
	for n := range 97 {
		count := string([]byte{byte(n)})
		isBody(t, many(n, integer(7)), "l96(i8)", "\x03"+count+strings.Repeat("\x01\x07", n))
		isBody(t, many(n, text("ab")), "l"+strconv.Itoa(n)+"(t2)", "\x03"+count+strings.Repeat("\x02\x02ab", n))
		isBody(t, many(n, list()), "l96(l0(i8))", "\x03"+count+strings.Repeat("\x03\x00", n))
	}
	isBody(t, list(integer(1), integer(2), integer(3)), "l3(i16)", "\x03\x03\x01\x00\x01\x01\x00\x02\x01\x00\x03") // in their order
	isBody(t, list(list(integer(1)), list(), list(integer(2), integer(3))), "l3(l2(i8))", "\x03\x03\x03\x01\x01\x01\x03\x00\x03\x02\x01\x02\x01\x03")
	isBody(t, list(list(list(list(list(integer(9)))))), "l1(l1(l1(l1(l1(i8)))))", "\x03\x01\x03\x01\x03\x01\x03\x01\x03\x01\x01\x09")
	isBody(t, vals.Value{Kind: types.List, Kids: []vals.Value{}}, "l0(i8)", "\x03\x00") // R2
}

func TestRecs(t *testing.T) { // 17.1, 17.2: as Lists; each Kid is of its field's type
	of, v, body := "", record(), ""
	for i := range 12 {
		of += "," + string(rune('a'+i)) + ":i8"
		v.Kids = append(v.Kids, integer(i))
		body += "\x01" + string([]byte{byte(i)})
		isBody(t, v, "r("+of[1:]+")", "\x04"+string([]byte{byte(i + 1)})+body)
	}
	isBody(t, record(integer(1), text("b"), list(integer(3)), record(integer(4)), integer(5)), "r(e:i8,d:t2,c:l1(i32),b:r(a:i16),a:i16)",
		"\x04\x05\x01\x01\x02\x01b\x03\x01\x01\x00\x00\x00\x03\x04\x01\x01\x00\x04\x01\x00\x05")
	isBody(t, list(record(integer(1), text("")), record(integer(2), text("x"))), "l2(r(a:i8,b:t1))", "\x03\x02\x04\x02\x01\x01\x02\x00\x04\x02\x01\x02\x02\x01x")
}

func TestVersions(t *testing.T) { // 17.1, 17.2
	x := typed(t, "i8")
	for version := range 256 {
		isState(t, State{version, x, integer(5)}, "im"+string([]byte{byte(version)})+"\x00\x02i8\x01\x05")
	}
	for _, version := range []int{math.MinInt, -1 << 32, -257, -256, -255, -2, -1, 256, 257, 511, 512, 65536, 1 << 32, 1<<32 + 1, math.MaxInt} {
		refuses(t, State{version, x, integer(5)}, api.ErrArg)
		refuses(t, State{version, types.Type{}, vals.Value{}}, api.ErrArg)
		refuses(t, State{version, typed(t, "l96(t255)"), many(96, text(strings.Repeat("a", 255)))}, api.ErrArg) // ahead of ErrLong
	}
	refuses(t, State{}, api.ErrForm)
}

// wrongTypes are types that are not right, some of which types.Check calls too long.
func wrongTypes() []types.Type {
	eight := types.Type{Kind: types.Int, N: 8}
	long := eight
	for range 6 {
		long = types.Type{Kind: types.List, N: 1, Kids: []types.Type{long}}
	}
	loop := types.Type{Kind: types.List, N: 1, Kids: []types.Type{eight}}
	loop.Kids[0] = loop
	return []types.Type{
		{}, {Kind: types.Int}, {Kind: types.Int, N: 7}, {Kind: types.Int, N: 24}, {Kind: types.Int, N: 64}, {Kind: types.Int, N: -8}, {Kind: types.Text, N: 256}, {Kind: types.Text, N: -1},
		{Kind: types.List, N: 8}, {Kind: types.List, N: 97, Kids: []types.Type{eight}}, {Kind: types.Rec}, {Kind: types.Rec, Kids: []types.Type{eight}}, {Kind: types.Rec, Names: []string{"a"}}, {Kind: 5, N: 8},
		{Kind: types.Rec, Names: []string{"a", "a"}, Kids: []types.Type{eight, eight}}, {Kind: types.Rec, N: 1, Names: []string{"a"}, Kids: []types.Type{eight}}, {Kind: types.Int, N: 8, Names: []string{"a"}},
		{Kind: types.List, N: 1, Kids: []types.Type{{Kind: types.Int, N: 9}}}, {Kind: types.Rec, Names: make([]string, 100), Kids: make([]types.Type, 100)}, long, loop,
	}
}

func TestWrongTypes(t *testing.T) { // 17.1: ErrForm, also of a type that is too deep or too wide
	deep := integer(1)
	for range 6 {
		deep = list(deep)
	}
	values := []vals.Value{{}, integer(0), text(""), list(), list(integer(0)), deep, record(), record(integer(0)), record(integer(0), integer(0)), {Kind: types.Rec, Kids: make([]vals.Value, 100)}, {Kind: 5}}
	for _, x := range wrongTypes() {
		for _, v := range values {
			noBody(t, v, x)
		}
	}
}

func TestMisfits(t *testing.T) { // 17.1: ErrForm, if the value does not fit
	loop := list(list())
	loop.Kids[0] = loop
	for of, values := range map[string][]vals.Value{
		"i8":              {{}, integer(256), integer(-1), integer(math.MinInt), integer(1 << 32), text(""), list(), record(), {Kind: types.Int, S: "a"}, {Kind: types.Int, Kids: []vals.Value{integer(0)}}, {Kind: 5}, {Kind: 257}},
		"i16":             {integer(65536), integer(-1), integer(-65536)},
		"i32":             {integer(1 << 32), integer(-1), integer(1<<32 + 1), integer(math.MaxInt), integer(math.MinInt)},
		"t3":              {text("abcd"), text(strings.Repeat("a", 256)), text(strings.Repeat("a", 259)), integer(0), list(), {Kind: types.Text, N: 1}},
		"t0":              {text("a")},
		"l2(i8)":          {many(3, integer(1)), many(256, integer(1)), many(258, integer(1)), list(integer(256)), list(integer(1), text("")), record(integer(1)), {Kind: types.List, S: "a"}, loop},
		"l0(i8)":          {list(integer(0))},
		"r(a:i8,b:t1)":    {record(), record(integer(1)), record(text(""), integer(1)), record(integer(1), text("a"), integer(1)), record(integer(1), text("ab")), list(integer(1), text("a"))},
		"l2(l2(r(a:i8)))": {list(list(record(integer(1))), list(record(integer(256)))), list(record(integer(1))), list(list(integer(1))), loop},
	} {
		for _, v := range values {
			noBody(t, v, typed(t, of))
		}
	}
}

// sized is a state of so many bytes.
func sized(t *testing.T, bytes int) State {
	t.Helper()
	s := State{Version: 2, Type: typed(t, "l96(t255)"), Value: list()}
	left := bytes - len(header(2, "l96(t255)")) - 2
	for left > 0 {
		n := min(left, 257)
		if left > 257 && left < 259 { // one byte alone is no text's
			n = 200
		}
		s.Value.Kids = append(s.Value.Kids, text(strings.Repeat("x", n-2)))
		left -= n
	}
	return s
}

func TestLimit(t *testing.T) { // 17.1, 17.2: at most MaxBytes in all
	for _, n := range []int{16, 18, 1000, 5742, 5743, 5744, 5998, 5999, 6000} {
		s := sized(t, n)
		isState(t, s, plainBytes(s))
		if got, _ := Size(s); got != n {
			t.Errorf("Size: %d, not %d", got, n)
		}
	}
	for _, n := range []int{6001, 6002, 6100, 12000, 16000} {
		s := sized(t, n)
		refuses(t, s, api.ErrLong)
		isNone(t, plainBytes(s), api.ErrLong)
		if b, e := Body(s.Value, s.Type); len(b) != n-14 || e != api.OK { // a body may be of any length
			t.Errorf("Body: %d, %v", len(b), e)
		}
		s.Value.Kids[0].S += strings.Repeat("y", 255)
		refuses(t, s, api.ErrForm)
	}
	isBody(t, many(96, text(strings.Repeat("z", 255))), "l96(t255)", "\x03\x60"+strings.Repeat("\x02\xff"+strings.Repeat("z", 255), 96))
	big := many(96, many(96, many(96, integer(3))))
	if b, e := Body(big, typed(t, "l96(l96(l96(i8)))")); len(b) != 2+96*(2+96*(2+96*2)) || e != api.OK {
		t.Errorf("Body: %d, %v", len(b), e)
	}
	refuses(t, State{0, typed(t, "l96(l96(l96(i8)))"), big}, api.ErrLong)
}

func TestReadLimit(t *testing.T) { // 17.2: ErrLong ahead of ErrForm
	for _, s := range []string{"\x00", "i", "im", "\xff", "im\x01\x00\x02i8\x01\x05"} {
		for _, n := range []int{6001, 6002, 7000, 65536, 1 << 24} {
			isNone(t, strings.Repeat(s, n/len(s)+1)[:n], api.ErrLong)
		}
		for _, n := range []int{5998, 5999, 6000} {
			isNone(t, strings.Repeat(s, n/len(s)+1)[:n], api.ErrForm)
		}
	}
	right := "im\x01\x00\x02i8\x01\x05"
	isNone(t, right+strings.Repeat("\x00", 6000-len(right)), api.ErrForm)
	isNone(t, right+strings.Repeat("\x00", 6001-len(right)), api.ErrLong)
}

func TestReadHeader(t *testing.T) { // 17.2: what is ahead of the value
	isState(t, State{1, typed(t, "i8"), integer(5)}, "im\x01\x00\x02i8\x01\x05")
	for _, b := range []string{
		"", "i", "im", "im\x01", "im\x01\x00", "im\x01\x00\x02", "im\x01\x00\x02i", "im\x01\x00\x02i8", "im\x01\x00\x02i8\x01",
		"Im\x01\x00\x02i8\x01\x05", "iM\x01\x00\x02i8\x01\x05", "mi\x01\x00\x02i8\x01\x05", "\x00\x00\x01\x00\x02i8\x01\x05", "\x01\x00\x02i8\x01\x05", "i\x01\x00\x02i8\x01\x05", "im im\x01\x00\x02i8\x01\x05", " im\x01\x00\x02i8\x01\x05",
		"im\x00\x02i8\x01\x05", "im\x01\x02i8\x01\x05", "im\x01\x02\x00i8\x01\x05", "im\x01\x00\x00\x02i8\x01\x05", "im\x00\x01\x00\x02i8\x01\x05",
		"im\x01\x00\x00\x01\x05", "im\x01\x00\x00i8\x01\x05", "im\x01\x00\x00", "im\x01\x00\x01i8\x01\x05", "im\x01\x00\x03i8\x01\x05", "im\x01\x00\x04i8\x01\x05", "im\x01\x00\x05i8\x01\x05", "im\x01\xff\xffi8\x01\x05", "im\x01\x01\x02i8\x01\x05", "im\x01\x80\x02i8\x01\x05",
		"im\x01\x00\x03i08\x01\x05", "im\x01\x00\x03i8 \x01\x05", "im\x01\x00\x03 i8\x01\x05", "im\x01\x00\x02i9\x01\x05", "im\x01\x00\x02I8\x01\x05", "im\x01\x00\x02x8\x01\x05", "im\x01\x00\x03i64\x01\x00\x00\x00\x00\x00\x00\x00\x05", "im\x01\x00\x04i8i8\x01\x05",
		"im\x01\x00\x02i8\x01\x05\x00", "im\x01\x00\x02i8\x01\x05\x01\x05", "im\x01\x00\x02i8\x01\x05im\x01\x00\x02i8\x01\x05", "im\x01\x00\x02i8\x00\x01\x05",
		header(1, "l1(l1(l1(l1(l1(l1(i8))))))") + "\x03\x00", header(1, "r(a:i8,a:i8)") + "\x04\x02\x01\x01\x01\x01", header(1, "l97(i8)") + "\x03\x00", header(1, "r()") + "\x04\x00", header(1, "t256") + "\x02\x00", header(1, "t00") + "\x02\x00",
	} {
		isNone(t, b, api.ErrForm)
	}
	for b := range 256 {
		for at := range 2 {
			x := []byte("im\x01\x00\x02i8\x01\x05")
			if x[at] != byte(b) {
				x[at] = byte(b)
				isNone(t, string(x), api.ErrForm)
			}
		}
	}
}

// long is a type whose text has more than 255 bytes.
const long = "r(abcdefgh:r(abcdefgh:r(abcdefgh:i32,bcdefghi:i32,cdefghij:i32,defghijk:i32,efghijkl:i32),bcdefghi:i32,cdefghij:i32,defghijk:i32,efghijkl:i32),bcdefghi:i32,cdefghij:i32,defghijk:i32,efghijkl:i32,fghijklm:i32,ghijklmn:i32,hijklmno:i32,ijklmnop:i32,jklmnopq:i32)"

func TestLongType(t *testing.T) { // 17.1, 17.2: how long the text is stands in two bytes, the higher first
	if len(long) < 256 {
		t.Fatal(len(long))
	}
	v, e := vals.Default(typed(t, long))
	if e != api.OK {
		t.Fatal(e)
	}
	s := State{0, typed(t, long), v}
	b := plainBytes(s)
	isState(t, s, b)
	if b[3] != 1 || int(b[4]) != len(long)-256 {
		t.Errorf("%q", b[:5])
	}
	swapped := []byte(b)
	swapped[3], swapped[4] = swapped[4], swapped[3]
	isNone(t, string(swapped), api.ErrForm)
	isNone(t, b[:3]+"\x00"+b[4:], api.ErrForm)
}

func TestReadBody(t *testing.T) { // 17.2: bytes of no value that fits
	for of, bodies := range map[string][]string{
		"i8":           {"", "\x01", "\x00\x05", "\x02\x05", "\x03\x05", "\x04\x05", "\x05\x05", "\x81\x05", "\x01\x00\x05", "\x01\x05\x00", "\x02\x00", "\x03\x00"},
		"i16":          {"", "\x01", "\x01\x05", "\x01\x00\x00\x05", "\x01\x00\x05\x00", "\x02\x00\x05", "\x00\x00\x05"},
		"i32":          {"\x01\x05", "\x01\x00\x05", "\x01\x00\x00\x05", "\x01\x00\x00\x00\x00\x05", "\x02\x00\x00\x00\x05", "\x02\x03\x00\x00\x05"},
		"t3":           {"", "\x02", "\x02\x01", "\x02\x04abcd", "\x02\x02a", "\x02\x02abc", "\x02\xff", "\x02\x00a", "\x01\x01a", "\x03\x00", "\x04\x00", "\x02\x00\x00", "\x02\xffabc", "\x02\x04" + "abcdefgh", "a", "\x02abc\x00"},
		"t0":           {"\x02\x01a", "\x02\x01", "\x02", "\x02\x00\x00", "\x02\xff" + strings.Repeat("a", 255)},
		"t254":         {"\x02\xff" + strings.Repeat("a", 255), "\x02\xfe" + strings.Repeat("a", 253), "\x02\xfe" + strings.Repeat("a", 255)},
		"l2(i8)":       {"", "\x03", "\x03\x01", "\x03\x01\x01", "\x03\x02\x01\x05", "\x03\x03\x01\x05\x01\x05\x01\x05", "\x03\x01\x01\x05\x01\x05", "\x03\x00\x01\x05", "\x04\x01\x01\x05", "\x03\x01\x02\x00", "\x03\x01\x03\x00", "\x03\xff\x01\x05\x01\x05", "\x03\xff" + strings.Repeat("\x01\x05", 255), "\x03\x03" + strings.Repeat("\x01\x05", 2), "\x03\x00\x00", "\x01\x05"},
		"l0(i8)":       {"\x03\x01\x01\x05", "\x03\x01", "\x03\x00\x00", "\x03"},
		"l96(i8)":      {"\x03\x61" + strings.Repeat("\x01\x05", 97), "\x03\x60" + strings.Repeat("\x01\x05", 95), "\x03\x60" + strings.Repeat("\x01\x05", 97), "\x03\x60" + strings.Repeat("\x01\x05", 95) + "\x02\x05"},
		"r(a:i8,b:t1)": {"", "\x04", "\x04\x02", "\x04\x00", "\x04\x01\x01\x05", "\x04\x02\x01\x05", "\x04\x02\x02\x00\x01\x05", "\x04\x02\x01\x05\x02\x02ab", "\x04\x03\x01\x05\x02\x01a", "\x04\x03\x01\x05\x02\x01a\x01\x05", "\x04\x03\x01\x05\x02\x01a\x02\x00", "\x03\x02\x01\x05\x02\x01a", "\x04\x02\x01\x05\x02\x01", "\x04\x02\x01\x05\x02\x01ab", "\x04\x01\x01\x05\x02\x01a", "\x04\xff\x01\x05\x02\x01a", "\x04\x02\x01\x05\x01\x05"},
		"l2(r(a:t2))":  {"\x03\x01\x04\x01\x02\x03abc", "\x03\x01\x04\x02\x02\x00\x02\x00", "\x03\x02\x04\x01\x02\x00\x02\x00", "\x03\x03\x04\x01\x02\x00\x04\x01\x02\x00\x04\x01\x02\x00", "\x03\x01\x04\x00"},
	} {
		for _, body := range bodies {
			isNone(t, header(1, of)+body, api.ErrForm)
		}
	}
}

// schema is one that a system has, with values of all kinds in it.
const schema = "r(procs:l6(r(pid:i8,up:i8,prog:i8,ended:i8,status:i8,pc:i16,regs:l8(i16))),fds:l36(r(pid:i8,slot:i8,kind:i8,obj:i8,off:i8)),areas:l24(r(pid:i8,first:i8,count:i8)),pages:l96(r(pid:i8,page:i8,frame:i8)),files:l4(r(id:i8,size:i8,blocks:l4(i8))),pipes:l3(r(id:i8,data:t16)))"

// greatest is a type's greatest value: all lists full, all texts as long as they may be.
func greatest(t types.Type) vals.Value {
	v := vals.Value{Kind: t.Kind}
	switch t.Kind {
	case types.Int:
		v.N = 1<<t.N - 1
	case types.Text:
		v.S = strings.Repeat("\xff", t.N)
	case types.List:
		v.Kids = many(t.N, greatest(t.Kids[0])).Kids
	case types.Rec:
		for _, kid := range t.Kids {
			v.Kids = append(v.Kids, greatest(kid))
		}
	}
	return v
}

func TestSchema(t *testing.T) { // 17.1 to 17.3: tables of a system
	x := typed(t, schema)
	least, _ := vals.Default(x)
	for version, v := range []vals.Value{least, greatest(x)} {
		s := State{version, x, v}
		isState(t, s, plainBytes(s))
	}
}

func TestReadEnds(t *testing.T) { // the bound: a few bytes that tell of many
	isNone(t, header(1, "l96(l96(l96(l96(l96(i8)))))")+strings.Repeat("\x03\x60", 2900), api.ErrForm)
	isNone(t, header(1, "l96(l96(l96(l96(l96(i8)))))")+strings.Repeat("\x03\xff", 2900), api.ErrForm)
	isNone(t, header(1, "l96(l96(l96(l0(i8))))")+strings.Repeat("\x03\x60", 2900), api.ErrForm)
	isNone(t, header(1, "l96(t255)")+"\x03\x60"+strings.Repeat("\x02\xff", 2900), api.ErrForm)
}
