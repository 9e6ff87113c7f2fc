package bits

import (
	"math"
	"testing"

	"imago/api"
)

// numbers are those with edges in all their halves, and some without any order.
var numbers = []uint64{0, 1, 0x8000000000000000, 0xffffffffffffffff, 0x00000000ffffffff, 0xffffffff00000000, 0x5555555555555555, 0xaaaaaaaaaaaaaaaa, 0xfedcba9876543210, 0x0123456789abcdef, 0x9e3779b97f4a7c15}

// far are numbers that no place, width or size may be.
var far = []int{math.MinInt, math.MinInt + 1, math.MinInt32, -64, -33, -1, 65, 1 << 32, 1<<32 + 1, math.MaxInt - 1, math.MaxInt}

func bit(n uint64, at int) uint64 { return n >> at & 1 }

// slowCut builds a field bit by bit.
func slowCut(n uint64, from, width int) uint32 {
	var v uint32
	for i := width - 1; i >= 0; i-- {
		v = 2*v + uint32(bit(n, from+i))
	}
	return v
}

func eachField(f func(from, width int)) {
	for width := 1; width <= 32; width++ {
		for from := 0; from+width <= 64; from++ {
			f(from, width)
		}
	}
}

// eachWrong calls f with places and widths that are no field.
func eachWrong(f func(from, width int)) {
	for _, from := range append([]int{0, 1, 32, 63}, far...) {
		for _, width := range append([]int{0, 33, 34, 64}, far...) {
			f(from, width)
		}
		if from < 0 || from > 63 {
			f(from, 1)
			f(from, 32)
		}
	}
	for width := 1; width <= 32; width++ {
		f(64-width+1, width)
		f(-1, width)
	}
}

func TestCutOfEachField(t *testing.T) { // 1.1
	for _, n := range numbers {
		eachField(func(from, width int) {
			if v, e := Cut(n, from, width); v != slowCut(n, from, width) || e != api.OK {
				t.Errorf("Cut(%x, %d, %d): %x, %v", n, from, width, v, e)
			}
		})
	}
	if v, e := Cut(0x1234, 4, 8); v != 0x23 || e != api.OK {
		t.Errorf("the chapter's example: %x, %v", v, e)
	}
}

func TestWrongFields(t *testing.T) { // 1.1, R1, R4: no field comes ahead of too many bits, and tells nothing else
	eachWrong(func(from, width int) {
		if v, e := Cut(math.MaxUint64, from, width); v != 0 || e != api.ErrArg {
			t.Errorf("Cut(.., %d, %d): %x, %v", from, width, v, e)
		}
		for _, v := range []uint32{0, 1, math.MaxUint32} {
			if n, e := Put(math.MaxUint64, from, width, v); n != 0 || e != api.ErrArg {
				t.Errorf("Put(.., %d, %d, %x): %x, %v", from, width, v, n, e)
			}
		}
	})
}

func TestPutThenCut(t *testing.T) { // 1.1, 1.4
	for _, n := range numbers {
		for _, m := range numbers {
			eachField(func(from, width int) {
				v := slowCut(m, 0, width)
				got, e := Put(n, from, width, v)
				if e != api.OK {
					t.Fatalf("Put(%x, %d, %d, %x): %v", n, from, width, v, e)
				}
				if back, e := Cut(got, from, width); back != v || e != api.OK {
					t.Errorf("put %x, cut %x, %v", v, back, e)
				}
				for at := range 64 {
					if (at < from || at >= from+width) && bit(got, at) != bit(n, at) {
						t.Fatalf("Put(%x, %d, %d, %x): bit %d changed", n, from, width, v, at)
					}
				}
			})
		}
	}
}

func TestPutOfTooManyBits(t *testing.T) { // 1.1, R4
	for width := 1; width < 32; width++ {
		for _, v := range []uint32{1 << width, 1<<width + 1, math.MaxUint32} {
			if n, e := Put(math.MaxUint64, 3, width, v); n != 0 || e != api.ErrLong {
				t.Errorf("Put(.., 3, %d, %x): %x, %v", width, v, n, e)
			}
		}
		if _, e := Put(0, 3, width, 1<<width-1); e != api.OK {
			t.Errorf("Put(0, 3, %d, all ones): %v", width, e)
		}
	}
	if n, e := Put(0, 32, 32, math.MaxUint32); n != 0xffffffff00000000 || e != api.OK {
		t.Errorf("Put of 32 bits: %x, %v", n, e)
	}
}

func TestSign(t *testing.T) { // 1.1
	for width := 1; width <= 32; width++ {
		half := int64(1) << (width - 1)
		for _, v := range []int64{0, 1, half - 1, half, half + 1, 2*half - 1} {
			if v >= 2*half {
				continue
			}
			want := v
			if v >= half {
				want = v - 2*half
			}
			if got, e := Sign(uint32(v), width); int64(got) != want || e != api.OK {
				t.Errorf("Sign(%d, %d): %d, %v", v, width, got, e)
			}
		}
		if width < 32 {
			for _, v := range []uint32{1 << width, math.MaxUint32} {
				if got, e := Sign(v, width); got != 0 || e != api.ErrLong {
					t.Errorf("Sign(%d, %d): %d, %v", v, width, got, e)
				}
			}
		}
	}
	for _, width := range append([]int{0, 33, 64}, far...) {
		for _, v := range []uint32{0, 1, math.MaxUint32} {
			if got, e := Sign(v, width); got != 0 || e != api.ErrArg {
				t.Errorf("Sign(%d, %d): %d, %v", v, width, got, e)
			}
		}
	}
}

func TestWord(t *testing.T) { // 1.2
	for _, c := range []struct {
		v    int
		want uint16
	}{{0, 0}, {65535, 65535}, {65536, 0}, {65537, 1}, {-1, 65535}, {-32768, 32768}, {-65536, 0}, {-65537, 65535}, {math.MaxInt, 65535}, {math.MinInt, 0}, {math.MinInt + 5, 5}, {0x7654321012345678, 0x5678}} {
		if w := Word(c.v); w != c.want {
			t.Errorf("Word(%d): %d", c.v, w)
		}
	}
}

func TestSignedOfEachWord(t *testing.T) { // 1.2, 1.5
	for n := range 1 << 16 {
		want := n
		if n >= 1<<15 {
			want = n - 1<<16
		}
		if v := Signed(uint16(n)); v != want || Word(v) != uint16(n) {
			t.Fatalf("Signed(%d): %d, and back %d", n, v, Word(v))
		}
	}
}

// slowTurn turns bit by bit.
func slowTurn(w uint16, by int) uint16 {
	for range ((by % 16) + 16) % 16 {
		w = w<<1 | w>>15
	}
	return w
}

func TestTurn(t *testing.T) { // 1.2, 1.5
	turns := append([]int{16, 17, 32, 160, 161, -16, -17, -160}, far...)
	for by := -15; by <= 15; by++ {
		turns = append(turns, by)
	}
	words := []uint16{0, 1, 0x8000, 0x8001, 0xffff, 0x7fff, 0x1234, 0xa5c3}
	for _, by := range turns {
		for _, w := range words {
			got := Turn(w, by)
			if got != slowTurn(w, by) {
				t.Errorf("Turn(%x, %d): %x", w, by, got)
			}
			if Turn(got, -by) != w || Ones(got) != Ones(w) {
				t.Errorf("Turn(%x, %d) and back: %x", w, by, Turn(got, -by))
			}
		}
	}
	if Turn(0x8001, 1) != 3 || Turn(0x8001, -1) != 0xc000 || Turn(0x8001, 16) != 0x8001 {
		t.Error("turned by 1, -1, 16")
	}
}

func TestOnesOfEachWord(t *testing.T) { // 1.2
	for n := range 1 << 16 {
		want := 0
		for at := range 16 {
			want += int(bit(uint64(n), at))
		}
		if got := Ones(uint16(n)); got != want {
			t.Fatalf("Ones(%x): %d", n, got)
		}
	}
}

func TestBytesThenNum(t *testing.T) { // 1.3, 1.4
	for size := 1; size <= 4; size++ {
		top := uint64(1)<<(8*size) - 1
		for _, n := range append([]uint64{top, top - 1, 0x80, 0xff, 0x01020304}, numbers...) {
			v := uint32(n & top)
			s, e := Bytes(v, size)
			if e != api.OK || len(s) != size {
				t.Fatalf("Bytes(%x, %d): %q, %v", v, size, s, e)
			}
			for i := range size {
				if s[i] != byte(slowCut(uint64(v), 8*(size-1-i), 8)) {
					t.Errorf("Bytes(%x, %d): %q", v, size, s)
				}
			}
			if back, e := Num(s); back != v || e != api.OK {
				t.Errorf("Num(%q): %x, %v", s, back, e)
			}
		}
	}
}

func TestBytesWrong(t *testing.T) { // 1.3, R1, R4
	for _, size := range append([]int{0, 5, 8}, far...) {
		for _, v := range []uint32{0, math.MaxUint32} {
			if s, e := Bytes(v, size); s != "" || e != api.ErrArg {
				t.Errorf("Bytes(%x, %d): %q, %v", v, size, s, e)
			}
		}
	}
	for size := 1; size < 4; size++ {
		for _, v := range []uint32{1 << (8 * size), math.MaxUint32} {
			if s, e := Bytes(v, size); s != "" || e != api.ErrLong {
				t.Errorf("Bytes(%x, %d): %q, %v", v, size, s, e)
			}
		}
	}
}

func TestNum(t *testing.T) { // 1.3, R4, R5: bytes, not letters
	for _, c := range []struct {
		s    string
		want uint32
		e    api.Errno
	}{{"", 0, api.ErrArg}, {"12345", 0, api.ErrArg}, {string(make([]byte, 1<<20)), 0, api.ErrArg}, {"\x00", 0, api.OK}, {"\x00\x00\x00\x07", 7, api.OK}, {"\xff\x00\x01", 0xff0001, api.OK}, {"\xff\xff\xff\xff", math.MaxUint32, api.OK}, {"\u00e9", 0xc3a9, api.OK}, {"\u00e9\u00e9\u00e9", 0, api.ErrArg}} {
		if v, e := Num(c.s); v != c.want || e != c.e {
			t.Errorf("Num of %d bytes: %x, %v", len(c.s), v, e)
		}
	}
}

func TestSameAgain(t *testing.T) { // R6: calls keep nothing
	first, _ := Put(0xffff, 4, 8, 0x12)
	s, _ := Bytes(258, 2)
	Put(0, 4, 8, 256)
	Bytes(7, 9)
	Turn(7, 3)
	again, _ := Put(0xffff, 4, 8, 0x12)
	if r, _ := Bytes(258, 2); first != 0xf12f || again != first || s != "\x01\x02" || r != s {
		t.Errorf("%x, %x, %q, %q", first, again, s, r)
	}
}
