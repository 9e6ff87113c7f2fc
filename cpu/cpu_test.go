package cpu

import (
	"math"
	"strings"
	"testing"

	"imago/api"
	"imago/code"
)

// next is the next of a row of numbers that look like thrown ones.
func next(seed *uint32) int {
	*seed = *seed*1664525 + 1013904223
	return int(*seed >> 8)
}

// edges are words at which something turns.
var edges = []uint16{0, 1, 2, 5, 7, 15, 16, 17, 127, 128, 255, 256, 257, 0x1234, 32767, 32768, 32769, 65280, 65534, 65535}

// someCPUs are registers of many kinds; R[1] and R[2] have all pairs of edges.
func someCPUs() []api.CPU {
	seed := uint32(7)
	var all []api.CPU
	for _, a := range edges {
		for _, b := range edges {
			var c api.CPU
			for r := range c.R {
				c.R[r] = uint16(next(&seed))
			}
			c.R[1], c.R[2] = a, b
			all = append(all, c)
		}
	}
	return all
}

// bytesOf are the bytes of an instruction.
func bytesOf(t *testing.T, i code.Inst) string {
	t.Helper()
	s, e := code.Bytes(i)
	if e != api.OK {
		t.Fatalf("no instruction: %v", i)
	}
	return s
}

// cut is n beyond whole turns of 65536.
func cut(n int) uint16 {
	n %= 65536
	if n < 0 {
		n += 65536
	}
	return uint16(n)
}

// bitwise makes a word of two, bit by bit.
func bitwise(a, b uint16, of func(x, y int) bool) uint16 {
	out := 0
	for place, weight := 0, 1; place < 16; place, weight = place+1, weight*2 {
		if of(int(a)/weight%2, int(b)/weight%2) {
			out += weight
		}
	}
	return uint16(out)
}

func power(of int) int {
	n := 1
	for range of {
		n *= 2
	}
	return n
}

func one(is bool) uint16 {
	if is {
		return 1
	}
	return 0
}

// counted is what the chapter says that register A is behind the step, of those ops that change it.
func counted(i code.Inst, a, b uint16) (uint16, bool) {
	switch i.Op {
	case code.Set:
		return uint16(i.N), true
	case code.Mov:
		return b, true
	case code.Add:
		return cut(int(a) + int(b)), true
	case code.Sub:
		return cut(int(a) - int(b)), true
	case code.Mul:
		return cut(int(a) * int(b)), true
	case code.And:
		return bitwise(a, b, func(x, y int) bool { return x+y == 2 }), true
	case code.Or:
		return bitwise(a, b, func(x, y int) bool { return x+y > 0 }), true
	case code.Xor:
		return bitwise(a, b, func(x, y int) bool { return x+y == 1 }), true
	case code.Shl:
		return cut(int(a) * power(int(b)%16)), true
	case code.Shr:
		return uint16(int(a) / power(int(b)%16)), true
	case code.Less:
		return one(a < b), true
	case code.Same:
		return one(a == b), true
	}
	return 0, false
}

// plain is the step of an instruction of that many bytes, by the chapter's words.
func plain(c api.CPU, i code.Inst, size int) (api.CPU, Act) {
	a, b := c.R[i.A], c.R[i.B]
	d := c
	d.PC = cut(int(c.PC) + size)
	if n, changes := counted(i, a, b); changes {
		d.R[i.A] = n
		return d, Act{5, 0, 0, 0, 0, 0}
	}
	switch i.Op {
	case code.Stop:
		return d, Act{1, 0, 0, 0, 0, 0}
	case code.Call:
		return d, Act{2, i.N, 0, 0, 0, 0}
	case code.Load:
		return d, Act{3, 0, i.A, int(b), 1, 0}
	case code.LoadW:
		return d, Act{3, 0, i.A, int(b), 2, 0}
	case code.Store:
		return d, Act{4, 0, 0, int(a), 1, int(b) % 256}
	case code.StoreW:
		return d, Act{4, 0, 0, int(a), 2, int(b)}
	}
	if i.Op == code.Jump || i.Op == code.Zero && a == 0 || i.Op == code.Other && a != 0 {
		d.PC = cut(int(c.PC) + size + i.N)
	}
	return d, Act{5, 0, 0, 0, 0, 0}
}

// holds tells whether a step is that of the chapter, for a code that has the instruction at the PC.
func holds(t *testing.T, c api.CPU, i code.Inst, s string) {
	t.Helper()
	wantCPU, want := plain(c, i, code.Size(i.Op))
	d, a := Step(c, s)
	if d != wantCPU || a != want {
		t.Errorf("Step of %v with %v: %v, %v, not %v, %v", i, c, d, a, wantCPU, want)
	}
}

// someInsts are instructions of every op, with many registers and numbers.
func someInsts() []code.Inst {
	var all []code.Inst
	for op := code.Stop; op <= code.Call; op++ {
		for _, a := range []int{0, 1, 2, 3, 7} {
			for _, b := range []int{0, 1, 2, 3, 7} {
				for _, n := range []int{0, 1, 9, 255, 256, 32767, 32768, 65532, 65533, 65535} {
					i := code.Inst{Op: op, A: a, B: b, N: n}
					if _, e := code.Bytes(i); e == api.OK {
						all = append(all, i)
					}
				}
			}
		}
	}
	return all
}

func TestKinds(t *testing.T) { // the chapter's numbers
	if [6]int{Bad, Ended, Called, Reads, Writes, Went} != [6]int{0, 1, 2, 3, 4, 5} {
		t.Error("kinds of acts")
	}
}

func TestExample(t *testing.T) {
	c := api.CPU{R: [8]uint16{0, 5, 7}}
	d, a := Step(c, "\x04\x12")
	if d != (api.CPU{R: [8]uint16{0, 65534, 7}, PC: 2}) || a != (Act{Kind: Went}) {
		t.Errorf("Sub: %v, %v", d, a)
	}
}

// 7.1: told one by one, so that not only the plain step above says what is right.
func TestStepOfEachOp(t *testing.T) {
	c := api.CPU{R: [8]uint16{0, 0x8001, 17, 0x8001, 0xffff, 300, 3, 0x0f0f}}
	went := Act{Kind: Went}
	for _, x := range []struct {
		name, bytes string
		reg, value  int
		pc          int
		act         Act
	}{
		{"stop", "\x00", 0, 0, 1, Act{Kind: Ended}},
		{"set", "\x01\x20\x01\x2c", 2, 300, 4, went},
		{"set to 0", "\x01\x40\x00\x00", 4, 0, 4, went},
		{"set to the most", "\x01\x00\xff\xff", 0, 65535, 4, went},
		{"mov", "\x02\x01", 0, 0x8001, 2, went},
		{"mov to itself", "\x02\x55", 5, 300, 2, went},
		{"add beyond a word", "\x03\x13", 1, 2, 2, went},
		{"add to itself", "\x03\x44", 4, 65534, 2, went},
		{"sub below 0", "\x04\x24", 2, 18, 2, went},
		{"sub of itself", "\x04\x11", 1, 0, 2, went},
		{"and", "\x05\x47", 4, 0x0f0f, 2, went},
		{"or", "\x06\x17", 1, 0x8f0f, 2, went},
		{"xor", "\x07\x74", 7, 0xf0f0, 2, went},
		{"shl by 17, which is by 1", "\x08\x12", 1, 2, 2, went},
		{"shl by 65535, which is by 15", "\x08\x64", 6, 0x8000, 2, went},
		{"shl by 0", "\x08\x10", 1, 0x8001, 2, went},
		{"shr by 17, which is by 1", "\x09\x12", 1, 0x4000, 2, went},
		{"shr by 65535, which is by 15", "\x09\x14", 1, 1, 2, went},
		{"mul beyond a word", "\x0a\x55", 5, 24464, 2, went},
		{"mul of the most", "\x0a\x44", 4, 1, 2, went},
		{"less", "\x0b\x21", 2, 1, 2, went},
		{"less, without a sign", "\x0b\x12", 1, 0, 2, went},
		{"less, if the same", "\x0b\x13", 1, 0, 2, went},
		{"same", "\x0c\x13", 1, 1, 2, went},
		{"not the same", "\x0c\x12", 1, 0, 2, went},
		{"load", "\x0d\x64", 6, 3, 2, Act{Kind: Reads, Reg: 6, Addr: 65535, Size: 1}},
		{"store", "\x0e\x51", 5, 300, 2, Act{Kind: Writes, Addr: 300, Size: 1, Value: 1}},
		{"store of 300", "\x0e\x05", 0, 0, 2, Act{Kind: Writes, Addr: 0, Size: 1, Value: 44}},
		{"loadw", "\x0f\x07", 0, 0, 2, Act{Kind: Reads, Reg: 0, Addr: 0x0f0f, Size: 2}},
		{"storew", "\x10\x45", 4, 65535, 2, Act{Kind: Writes, Addr: 65535, Size: 2, Value: 300}},
		{"jump nowhere", "\x11\x00\x00", 0, 0, 3, went},
		{"jump on", "\x11\x01\x00", 0, 0, 259, went},
		{"jump back to itself", "\x11\xff\xfd", 0, 0, 0, went},
		{"jump ahead of the code", "\x11\xff\xf0", 0, 0, 65523, went},
		{"zero of 0", "\x12\x00\x00\x05", 0, 0, 9, went},
		{"zero of another", "\x12\x10\x00\x05", 1, 0x8001, 4, went},
		{"other of 0", "\x13\x00\x00\x05", 0, 0, 4, went},
		{"other of another", "\x13\x10\xff\xfc", 1, 0x8001, 0, went},
		{"call", "\x14\x09", 0, 0, 2, Act{Kind: Called, N: 9}},
		{"call of the most", "\x14\xff", 0, 0, 2, Act{Kind: Called, N: 255}},
	} {
		want := c
		want.R[x.reg], want.PC = uint16(x.value), uint16(x.pc)
		if d, a := Step(c, x.bytes); d != want || a != x.act {
			t.Errorf("%s: %v, %v", x.name, d, a)
		}
	}
}

func TestStep(t *testing.T) { // 7.1
	for _, i := range someInsts() {
		s := bytesOf(t, i)
		for _, c := range someCPUs() {
			holds(t, c, i, s)
		}
	}
}

func TestStepOnAllPairs(t *testing.T) { // 7.1: each register as A and as B, the same one too
	c := api.CPU{R: [8]uint16{3, 65535, 0, 300, 32768, 17, 3, 4660}}
	for op := code.Mov; op <= code.StoreW; op++ {
		for a := range api.Regs {
			for b := range api.Regs {
				i := code.Inst{Op: op, A: a, B: b}
				holds(t, c, i, bytesOf(t, i))
			}
		}
	}
}

// 7.1: the instruction is the one at the PC, and the PC's cut is where a word ends.
func TestStepAtPlaces(t *testing.T) {
	for _, at := range []int{0, 1, 2, 3, 4, 100, 255, 256, 257, 32767, 32768, 65000, 65531, 65532, 65533, 65534, 65535} {
		for _, i := range someInsts() {
			s := bytesOf(t, i)
			c := api.CPU{R: [8]uint16{0, 1, 2, 3, 4, 5, 6, 7}, PC: uint16(at)}
			holds(t, c, i, strings.Repeat("\x00", at)+s)
		}
	}
}

// bads are codes and places where no instruction is.
func bads() map[string][]int {
	long := strings.Repeat("\x00", 300)
	all := map[string][]int{
		"":     {0, 1, 2, 65535},
		"\x00": {1, 2, 255, 256, 65535},
		long:   {300, 301, 65535},
	}
	for op := 21; op < 256; op++ { // no such op
		all[string([]byte{byte(op)})+"\x00\x00\x00"] = []int{0}
	}
	for _, s := range []string{"\x02\x80", "\x02\x08", "\x03\xf1", "\x03\x1f", "\x0d\x88", "\x10\x19", "\x01\x80\x00\x00", "\x01\x11\x00\x00", "\x12\x01\x00\x00", "\x13\x90\x00\x00"} { // no such register, or one too many
		all[s], all[s+"\x00\x00"] = []int{0}, []int{0}
	}
	for _, s := range []string{"\x01", "\x01\x10", "\x01\x10\x00", "\x02", "\x10", "\x11", "\x11\x00", "\x12", "\x12\x10\x00", "\x13\x10", "\x14"} { // cut off
		all[s], all["\x00\x00"+s] = []int{0}, []int{2}
	}
	return all
}

func TestBad(t *testing.T) { // 7.1, 7.3: nothing changes
	for s, places := range bads() {
		for _, at := range places {
			c := api.CPU{R: [8]uint16{9, 8, 7, 6, 5, 4, 3, 65535}, PC: uint16(at)}
			if d, a := Step(c, s); d != c || a != (Act{}) {
				t.Errorf("Step(%q) at %d: %v, %v", s, at, d, a)
			}
		}
	}
}

// 7.3, for any bytes: also those that are no instruction.
func TestStepChangesAtMostOneRegister(t *testing.T) {
	seed := uint32(11)
	for range 200000 {
		s := make([]byte, 1+next(&seed)%6)
		for k := range s {
			s[k] = byte(next(&seed))
		}
		s[0] = byte(next(&seed) % 24)
		c := api.CPU{PC: uint16(next(&seed) % 2)}
		for r := range c.R {
			c.R[r] = uint16(next(&seed))
		}
		d, a := Step(c, string(s))
		changed := 0
		for r := range c.R {
			if c.R[r] != d.R[r] {
				changed++
			}
		}
		if changed > 1 || changed > 0 && a.Kind != Went {
			t.Fatalf("Step(%q) of %v: %v, %v", s, c, d, a)
		}
		if _, _, e := code.At(string(s), int(c.PC)); (e != api.OK) != (a.Kind == Bad) || e != api.OK && d != c {
			t.Fatalf("Step(%q) of %v: %v, %v", s, c, d, a)
		}
	}
}

// 7.4: what stands ahead of the instruction's bytes and behind them is of no weight.
func TestStepHangsOnItsBytesAlone(t *testing.T) {
	for _, i := range someInsts() {
		s := bytesOf(t, i)
		for _, ahead := range []string{"\x00\x00\x00\x00", "\xff\xff\xff\xff", "\x01\x10\x00\x05", "\x14\x14\x14\x14"} {
			for _, behind := range []string{"", "\x00", "\xff", s, "\x01\x10\x00\x05", strings.Repeat("\xff", 400)} {
				c := api.CPU{R: [8]uint16{0, 1, 255, 256, 65535, 0, 7, 8}, PC: 4}
				holds(t, c, i, ahead+s+behind)
			}
		}
	}
}

func TestLoaded(t *testing.T) { // 7.2
	c := api.CPU{R: [8]uint16{10, 11, 12, 13, 14, 15, 16, 17}, PC: 77}
	for reg := range 8 {
		for _, v := range edges {
			want := c
			want.R[reg] = v
			if d, e := Loaded(c, reg, int(v)); d != want || e != api.OK {
				t.Errorf("Loaded(%d, %d): %v, %v", reg, v, d, e)
			}
		}
	}
}

func TestLoadedOfWrong(t *testing.T) { // 7.2, R4
	c := api.CPU{R: [8]uint16{10, 11, 12, 13, 14, 15, 16, 17}, PC: 77}
	far := []int{math.MinInt, math.MinInt + 1, -1 << 40, -65536, -65535, -8, -1, 65536, 65537, 1 << 17, 1 << 32, 1<<32 + 1, 1 << 40, math.MaxInt}
	for _, x := range far {
		for _, right := range []int{0, 7} {
			if d, e := Loaded(c, right, x); d != (api.CPU{}) || e != api.ErrArg {
				t.Errorf("Loaded(%d, %d): %v, %v", right, x, d, e)
			}
		}
	}
	for _, reg := range append([]int{8, 9, 15, 16, 255, 256}, far...) {
		for _, v := range []int{0, 65535, -1, 65536} {
			if d, e := Loaded(c, reg, v); d != (api.CPU{}) || e != api.ErrArg {
				t.Errorf("Loaded(%d, %d): %v, %v", reg, v, d, e)
			}
		}
	}
}

func TestArgs(t *testing.T) { // 7.2
	for _, x := range []struct {
		c    api.CPU
		want [3]int
	}{
		{api.CPU{}, [3]int{0, 0, 0}},
		{api.CPU{R: [8]uint16{10, 11, 12, 13, 14, 15, 16, 17}, PC: 77}, [3]int{11, 12, 13}},
		{api.CPU{R: [8]uint16{1, 65535, 32768, 0, 1, 1, 1, 1}, PC: 65535}, [3]int{65535, 32768, 0}},
	} {
		if a := Args(x.c); a != x.want {
			t.Errorf("Args(%v): %v", x.c, a)
		}
	}
}

func TestAnswer(t *testing.T) { // 7.2
	c := api.CPU{R: [8]uint16{10, 11, 12, 13, 14, 15, 16, 17}, PC: 77}
	for v, want := range map[int]uint16{
		0: 0, 1: 1, 255: 255, 256: 256, 32768: 32768, 65535: 65535, 65536: 0, 65537: 1, 131071: 65535, 1<<32 + 7: 7, 1 << 40: 0,
		-1: 65535, -2: 65534, -32768: 32768, -65535: 1, -65536: 0, -65537: 65535, math.MaxInt: 65535, math.MinInt: 0, math.MinInt + 3: 3,
	} {
		d := c
		d.R[0] = want
		if got := Answer(c, v); got != d {
			t.Errorf("Answer(%d): %v", v, got)
		}
	}
}
