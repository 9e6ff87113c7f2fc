package code

import (
	"math"
	"slices"
	"strings"
	"testing"

	"imago/api"
)

// op is a row of the chapter's table, told apart from the program's own.
type op struct {
	number, size    int
	a, b            bool
	mostN, bytesOfN int
}

func ops() []op {
	all := []op{{0, 1, false, false, 0, 0}, {1, 4, true, false, 65535, 2}}
	for n := 2; n <= 16; n++ {
		all = append(all, op{n, 2, true, true, 0, 0})
	}
	return append(all, op{17, 3, false, false, 65535, 2}, op{18, 4, true, false, 65535, 2},
		op{19, 4, true, false, 65535, 2}, op{20, 2, false, false, 255, 1})
}

// upTo7 are the numbers from 0 to 7, if there is such a register, and else 0.
func upTo7(there bool) []int {
	if there {
		return []int{0, 1, 2, 3, 4, 5, 6, 7}
	}
	return []int{0}
}

// right are instructions of an op, with all registers and some numbers.
func right(o op) []Inst {
	var all []Inst
	for _, a := range upTo7(o.a) {
		for _, b := range upTo7(o.b) {
			for _, n := range []int{0, 1, 127, 128, 255, 256, 300, 32767, 32768, 65280, 65535} {
				if n <= o.mostN {
					all = append(all, Inst{o.number, a, b, n})
				}
			}
		}
	}
	return all
}

// written are the bytes of a right instruction, by the chapter's words.
func written(o op, i Inst) string {
	out := []byte{byte(i.Op)}
	if o.a {
		out = append(out, byte(i.A*16+i.B))
	}
	switch o.bytesOfN {
	case 1:
		out = append(out, byte(i.N))
	case 2:
		out = append(out, byte(i.N/256), byte(i.N%256))
	}
	return string(out)
}

// wrongInsts are no instructions: one field of each is out of its range.
func wrongInsts() []Inst {
	var all []Inst
	far := []int{math.MinInt, math.MinInt64 + 1, math.MinInt32, -65536, -256, -16, -8, -2, -1, 1 << 32, 1<<32 + 1, 1 << 40, math.MaxInt}
	for _, n := range append([]int{21, 22, 255, 256, 257, 276}, far...) {
		all = append(all, Inst{Op: n}, Inst{n, 1, 0, 0}, Inst{n, 1, 2, 3})
	}
	for _, o := range ops() {
		for _, r := range append([]int{8, 9, 15, 16, 255, 256}, far...) {
			all = append(all, Inst{o.number, r, 0, 0}, Inst{o.number, 0, r, 0})
		}
		for _, n := range append([]int{o.mostN + 1, o.mostN + 2, 65536, 65537, 1 << 24}, far...) {
			all = append(all, Inst{o.number, 0, 0, n})
		}
		for r := 1; r <= 7; r++ {
			if !o.a {
				all = append(all, Inst{o.number, r, 0, 0})
			}
			if !o.b {
				all = append(all, Inst{o.number, 0, r, 0})
			}
		}
	}
	return all
}

func TestOps(t *testing.T) { // the chapter's numbers
	all := []int{Stop, Set, Mov, Add, Sub, And, Or, Xor, Shl, Shr, Mul, Less, Same, Load, Store, LoadW, StoreW, Jump, Zero, Other, Call}
	for i, n := range all {
		if n != i {
			t.Errorf("op %d: %d", i, n)
		}
	}
	if len(all) != len(ops()) {
		t.Errorf("%d ops", len(all))
	}
}

func TestBytes(t *testing.T) { // 5.1
	for _, o := range ops() {
		for _, i := range right(o) {
			s, e := Bytes(i)
			if s != written(o, i) || e != api.OK {
				t.Errorf("Bytes(%v): %q, %v", i, s, e)
			}
		}
	}
	for _, i := range wrongInsts() { // R4 too
		if s, e := Bytes(i); s != "" || e != api.ErrForm {
			t.Errorf("Bytes(%v): %q, %v", i, s, e)
		}
	}
}

func TestExample(t *testing.T) {
	for want, i := range map[string]Inst{"\x01\x20\x01\x2c": {Op: Set, A: 2, N: 300}, "\x03\x12": {Op: Add, A: 1, B: 2}, "\x14\x05": {Op: Call, N: 5}} {
		if s, e := Bytes(i); s != want || e != api.OK {
			t.Errorf("Bytes(%v): %q, %v", i, s, e)
		}
		if got, behind, e := At(want, 0); got != i || behind != len(want) || e != api.OK {
			t.Errorf("At(%q): %v, %d, %v", want, got, behind, e)
		}
	}
}

func TestAtReadsWhatWasWritten(t *testing.T) { // 5.1, 5.3: wherever it stands, whatever stands ahead and behind
	around := []string{"", "\x00", "\xff", "\x01", "\x03\x12", strings.Repeat("\xfe", 300)}
	for _, o := range ops() {
		for _, i := range right(o) {
			s := written(o, i)
			for _, ahead := range around {
				for _, behind := range around {
					got, next, e := At(ahead+s+behind, len(ahead))
					if got != i || next != len(ahead)+len(s) || e != api.OK {
						t.Fatalf("At(%q, %d): %v, %d, %v", ahead+s+behind, len(ahead), got, next, e)
					}
				}
			}
		}
	}
}

func none(t *testing.T, code string, at int, want api.Errno) {
	t.Helper()
	if i, next, e := At(code, at); i != (Inst{}) || next != 0 || e != want { // R4
		t.Errorf("At(%q, %d): %v, %d, %v", code, at, i, next, e)
	}
}

func TestAtWrongPlace(t *testing.T) { // 5.1: the place comes ahead of the bytes
	for _, code := range []string{"", "\x00", "\xff", "\x01", "\x03\x12\x00", strings.Repeat("\x00", 257)} {
		for _, at := range []int{math.MinInt, math.MinInt32, -256, -1, len(code), len(code) + 1, 1 << 32, math.MaxInt} {
			none(t, code, at, api.ErrArg)
		}
	}
}

func TestAtWrongBytes(t *testing.T) { // 5.1
	for first := 21; first < 256; first++ {
		for _, behind := range []string{"", "\x00", "\x00\x00\x00\x00"} {
			none(t, string([]byte{byte(first)})+behind, 0, api.ErrForm)
			none(t, "\x00"+string([]byte{byte(first)})+behind, 1, api.ErrForm)
		}
	}
	for _, o := range ops() { // cut off
		for _, i := range right(o) {
			s := written(o, i)
			for n := 1; n < len(s); n++ {
				none(t, s[:n], 0, api.ErrForm)
				none(t, "\x00\x00"+s[:n], 2, api.ErrForm)
			}
		}
	}
	for _, o := range ops() { // registers that there are not
		for r := range 256 {
			if o.a && (r/16 > 7 || r%16 > 7 || !o.b && r%16 > 0) {
				none(t, string([]byte{byte(o.number), byte(r), 0, 0}), 0, api.ErrForm)
			}
		}
	}
}

func TestNoOtherBytesAreTheSame(t *testing.T) { // 5.3
	read := map[Inst]string{}
	for first := range 256 {
		for second := range 256 {
			for _, rest := range []string{"\x00\x00", "\x00\x01", "\x01\x00", "\xff\xff"} {
				code := string([]byte{byte(first), byte(second)}) + rest
				i, behind, e := At(code, 0)
				if e != api.OK {
					continue
				}
				if s, e := Bytes(i); s != code[:behind] || e != api.OK {
					t.Errorf("Bytes(At(%q)): %q, %v", code, s, e)
				}
				if s, there := read[i]; there && s != code[:behind] {
					t.Errorf("%q and %q: both %v", s, code[:behind], i)
				}
				read[i] = code[:behind]
			}
		}
	}
	for n := range 65536 {
		for _, i := range []Inst{{Op: Jump, N: n}, {Op: Set, A: 5, N: n}} {
			s, _ := Bytes(i)
			if got, behind, e := At(s, 0); got != i || behind != len(s) || e != api.OK {
				t.Fatalf("At(Bytes(%v)): %v, %d, %v", i, got, behind, e)
			}
		}
	}
}

func TestSize(t *testing.T) { // 5.1
	for _, o := range ops() {
		if Size(o.number) != o.size {
			t.Errorf("Size(%d): %d", o.number, Size(o.number))
		}
	}
	for _, n := range []int{math.MinInt, math.MinInt32, -256, -1, 21, 22, 255, 256, 257, 1 << 32, 1<<32 + 1, math.MaxInt} {
		if Size(n) != 0 {
			t.Errorf("Size(%d): %d", n, Size(n))
		}
	}
}

// next is a pseudo-random number from 0 to less than most.
func next(seed *uint32, most int) int {
	*seed = *seed*1664525 + 1013904223
	return int(*seed>>8) % most
}

func some(seed *uint32) Inst {
	all := right(ops()[next(seed, 21)])
	return all[next(seed, len(all))]
}

func TestAllAndJoin(t *testing.T) { // 5.2, 5.3
	seed := uint32(1)
	for range 500 {
		var l []Inst
		want := ""
		for {
			i := some(&seed)
			s := written(ops()[i.Op], i)
			if len(want)+len(s) > api.MaxCode || next(&seed, 100) == 0 {
				break
			}
			l = append(l, i)
			want += s
		}
		given := append(make([]Inst, 0, len(l)+3), l...)
		spare := given[len(l):cap(given)]
		s, e := Join(given)
		if s != want || e != api.OK {
			t.Fatalf("Join(%v): %q, %v", l, s, e)
		}
		if !slices.Equal(given, l) || slices.ContainsFunc(spare, func(i Inst) bool { return i != Inst{} }) { // R3
			t.Fatal("Join changed its list")
		}
		if got, e := All(s); !slices.Equal(got, l) || e != api.OK {
			t.Fatalf("All(%q): %v, %v", s, got, e)
		}
	}
}

func TestNothing(t *testing.T) { // 5.2, R2
	if l, e := All(""); len(l) != 0 || e != api.OK {
		t.Errorf("All: %v, %v", l, e)
	}
	for _, l := range [][]Inst{nil, {}} {
		if s, e := Join(l); s != "" || e != api.OK {
			t.Errorf("Join: %q, %v", s, e)
		}
	}
}

func TestAllAnswersNewMemory(t *testing.T) { // R3
	a, _ := All("\x00\x03\x12\x00")
	b, _ := All("\x00\x03\x12\x00")
	a = a[:cap(a)]
	for i := range a {
		a[i] = Inst{99, 99, 99, 99}
	}
	if want := []Inst{{}, {Add, 1, 2, 0}, {}}; !slices.Equal(b, want) {
		t.Errorf("All: %v", b)
	}
}

func TestAllErrors(t *testing.T) { // 5.2, R4
	stops := func(n int) string { return strings.Repeat("\x00", n) }
	for code, want := range map[string]api.Errno{
		stops(256):                      api.OK,
		stops(252) + "\x01\x10\x00\x00": api.OK,
		stops(257):                      api.ErrLong,
		stops(1000):                     api.ErrLong,
		strings.Repeat("\xff", 257):     api.ErrLong, // the length comes first
		stops(253) + "\x01\x10\x00\x00": api.ErrLong,
		strings.Repeat("\xff", 256):     api.ErrForm,
		stops(255) + "\x01":             api.ErrForm,
		stops(255) + "\x15":             api.ErrForm,
		stops(255) + "\x00":             api.OK,
		"\x00\x03":                      api.ErrForm,
		"\x00\x03\x88\x00":              api.ErrForm,
		"\x15\x00":                      api.ErrForm,
		"\x00\x01\x11\x00\x00":          api.ErrForm,
		"\x14\x00\x14":                  api.ErrForm,
	} {
		l, e := All(code)
		if e != want || e != api.OK && len(l) != 0 {
			t.Errorf("All(%q): %v, %v", code, l, e)
		}
	}
}

func TestJoinErrors(t *testing.T) { // 5.2, R4
	stops := func(n int, more ...Inst) []Inst { return append(make([]Inst, n), more...) }
	set, bad := Inst{Op: Set, A: 1}, Inst{Op: 21}
	for i, c := range []struct {
		l    []Inst
		want api.Errno
	}{
		{stops(256), api.OK},
		{stops(257), api.ErrLong},
		{stops(252, set), api.OK},
		{stops(253, set), api.ErrLong},
		{stops(253, set, Inst{}), api.ErrLong},
		{stops(255, set, Inst{}), api.ErrLong}, // what is too long doesn't become right by a shorter one
		{slices.Repeat([]Inst{set}, 64), api.OK},
		{slices.Repeat([]Inst{set}, 65), api.ErrLong},
		{slices.Repeat([]Inst{set}, 100000), api.ErrLong},
		{stops(0, bad), api.ErrForm},
		{stops(0, bad, Inst{}), api.ErrForm},
		{stops(256, bad), api.ErrForm},
		{stops(257, bad), api.ErrForm}, // one that is none comes first, wherever it stands
		{append(stops(500, bad), stops(500)...), api.ErrForm},
		{append(stops(0, bad), stops(500)...), api.ErrForm},
	} {
		s, e := Join(c.l)
		if e != c.want || e != api.OK && s != "" {
			t.Errorf("%d: Join: %q, %v", i, s, e)
		}
	}
	for _, i := range wrongInsts() {
		if s, e := Join([]Inst{{}, i, {}}); s != "" || e != api.ErrForm {
			t.Errorf("Join of %v: %q, %v", i, s, e)
		}
	}
}
