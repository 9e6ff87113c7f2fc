package play

import (
	"math"
	"slices"
	"strings"
	"testing"

	"imago/api"
	"imago/asm"
	"imago/code"
)

// next is the next of a row of numbers that look like thrown ones.
func next(seed *uint32) int {
	*seed = *seed*1664525 + 1013904223
	return int(*seed >> 8)
}

// read is the code of lines that stand on one, with slashes between them.
func read(t *testing.T, lines string) string {
	t.Helper()
	s, bad := asm.Read(strings.ReplaceAll(lines, "/", "\n"))
	if bad != 0 {
		t.Fatalf("%s: line %d", lines, bad)
	}
	return s
}

// filled is a memory of 256 bytes that begins so.
func filled(s string) string { return s + strings.Repeat("\x00", 256-len(s)) }

// counting is a memory whose bytes are all other than their neighbours.
func counting() string {
	b := make([]byte, 256)
	for i := range b {
		b[i] = byte(i)
	}
	return string(b)
}

func alike(a, b Result) bool {
	return a.How == b.How && a.Steps == b.Steps && a.CPU == b.CPU && a.Memory == b.Memory && slices.Equal(a.Calls, b.Calls)
}

// expect runs a code, and holds the run against what is wanted.
func expect(t *testing.T, s, memory string, answers []int, fuel int, want Result) {
	t.Helper()
	if r, e := Run(s, memory, answers, fuel); e != api.OK || !alike(r, want) {
		t.Errorf("Run(%q, %v, %d): %v, %v, not %v", s, answers, fuel, r, e, want)
	}
}

func TestNumbers(t *testing.T) { // the chapter's
	if [5]int{MaxFuel, Over, Broken, Out, Spent} != [5]int{5000, 1, 2, 3, 4} {
		t.Error("numbers")
	}
}

func TestExample(t *testing.T) {
	s := read(t, "set r1 5/call 9/stop")
	expect(t, s, "", []int{3}, 100, Result{
		How: Over, Steps: 3, CPU: api.CPU{R: [8]uint16{3, 5}, PC: 7}, Memory: filled(""), Calls: []Call{{9, [3]int{5, 0, 0}}},
	})
}

func TestRunBegins(t *testing.T) { // 8.1: registers 0, and memory with bytes 0 behind it
	for _, m := range []string{"", "\x00", "a", "\xff\xfe", strings.Repeat("z", 255), strings.Repeat("z", 256), counting()} {
		expect(t, "", m, nil, 0, Result{How: Spent, Memory: filled(m)})
		expect(t, "\x00", m, nil, 1, Result{How: Over, Steps: 1, CPU: api.CPU{PC: 1}, Memory: filled(m)})
	}
}

func TestBroken(t *testing.T) { // 8.1: by a bad step, which is counted
	for s, x := range map[string]struct{ steps, pc int }{
		"":                     {1, 0},
		"\xff":                 {1, 0},
		"\x02\x80":             {1, 0},
		"\x11\x00":             {1, 0},
		"\x02\x12":             {2, 2},
		"\x02\x12\x15":         {2, 2},
		"\x11\x01\x00":         {2, 259},
		"\x11\x00\xfd":         {2, 256},
		"\x11\xff\xfc":         {2, 65535},
		"\x11\x80\x00":         {2, 32771},
		"\x02\x12\x02\x34\x11": {3, 4},
	} {
		expect(t, s, "ab", nil, 100, Result{How: Broken, Steps: x.steps, CPU: api.CPU{PC: uint16(x.pc)}, Memory: filled("ab")})
	}
	full := strings.Repeat("\x02\x12", 128)
	expect(t, full, "", nil, 1000, Result{How: Broken, Steps: 129, CPU: api.CPU{PC: 256}, Memory: filled("")})
}

func TestReads(t *testing.T) { // 8.1: the higher byte first
	for _, x := range []struct {
		lines string
		addr  int
		want  uint16
	}{
		{"load r3 r1", 0, 0}, {"load r3 r1", 1, 1}, {"load r3 r1", 254, 254}, {"load r3 r1", 255, 255},
		{"loadw r3 r1", 0, 1}, {"loadw r3 r1", 1, 0x0102}, {"loadw r3 r1", 253, 0xfdfe}, {"loadw r3 r1", 254, 0xfeff},
	} {
		s := "\x01\x10\x00" + string([]byte{byte(x.addr)}) + read(t, x.lines+"/stop")
		want := api.CPU{R: [8]uint16{0, uint16(x.addr), 0, x.want}, PC: 7}
		expect(t, s, counting(), nil, 100, Result{How: Over, Steps: 3, CPU: want, Memory: counting()})
	}
	expect(t, read(t, "loadw r0 r0/stop"), "\x02\x03", nil, 9, Result{How: Over, Steps: 2, CPU: api.CPU{R: [8]uint16{0x0203}, PC: 3}, Memory: filled("\x02\x03")})
}

func TestWrites(t *testing.T) { // 8.1: the higher byte first
	for _, x := range []struct {
		line, wrote string
		addr        int
	}{
		{"store r1 r2", "\x34", 0}, {"store r1 r2", "\x34", 7}, {"store r1 r2", "\x34", 254}, {"store r1 r2", "\x34", 255},
		{"storew r1 r2", "\x12\x34", 0}, {"storew r1 r2", "\x12\x34", 7}, {"storew r1 r2", "\x12\x34", 253}, {"storew r1 r2", "\x12\x34", 254},
	} {
		s := "\x01\x10\x00" + string([]byte{byte(x.addr)}) + read(t, "set r2 4660/"+x.line+"/stop")
		m := counting()
		m = m[:x.addr] + x.wrote + m[x.addr+len(x.wrote):]
		want := api.CPU{R: [8]uint16{0, uint16(x.addr), 4660}, PC: 11}
		expect(t, s, counting(), nil, 100, Result{How: Over, Steps: 4, CPU: want, Memory: m})
	}
	m := "\x00\x00\x00\x09" // what is written is read again
	expect(t, read(t, "set r1 2/set r2 513/storew r1 r2/load r3 r1/loadw r4 r1/stop"), m, nil, 100, Result{
		How: Over, Steps: 6, CPU: api.CPU{R: [8]uint16{0, 2, 513, 2, 513}, PC: 15}, Memory: filled("\x00\x00\x02\x01"),
	})
}

func TestOut(t *testing.T) { // 8.1: nothing changes, and the PC is at that instruction
	for line, addrs := range map[string][]int{
		"load r3 r1":   {256, 257, 511, 512, 32768, 65280, 65535},
		"loadw r3 r1":  {255, 256, 257, 511, 65534, 65535},
		"store r1 r2":  {256, 257, 511, 512, 32768, 65280, 65535},
		"storew r1 r2": {255, 256, 257, 511, 65534, 65535},
	} {
		for _, addr := range addrs {
			s := "\x01\x10" + string([]byte{byte(addr / 256), byte(addr % 256)}) + read(t, "set r2 65535/set r3 5/"+line+"/stop")
			want := api.CPU{R: [8]uint16{0, uint16(addr), 65535, 5}, PC: 12}
			expect(t, s, counting(), []int{1}, 100, Result{How: Out, Steps: 4, CPU: want, Memory: counting()})
			expect(t, s, counting(), []int{1}, 4, Result{How: Out, Steps: 4, CPU: want, Memory: counting()})
			expect(t, s, counting(), []int{1}, 3, Result{How: Spent, Steps: 3, CPU: want, Memory: counting()})
		}
	}
}

func TestCalls(t *testing.T) { // 8.1: answered by the next answer, cut to a word; by 0, where there is none left
	s := read(t, "set r0 9/set r1 1/set r2 2/set r3 65535/call 0/mov r1 r0/call 255/mov r2 r0/call 7/mov r4 r0/call 8/stop")
	expect(t, s, "x", []int{-1, 65536 + 4}, 100, Result{
		How: Over, Steps: 12, CPU: api.CPU{R: [8]uint16{0, 65535, 4, 65535, 0}, PC: 31}, Memory: filled("x"),
		Calls: []Call{{0, [3]int{1, 2, 65535}}, {255, [3]int{65535, 2, 65535}}, {7, [3]int{65535, 4, 65535}}, {8, [3]int{65535, 4, 65535}}},
	})
	one := read(t, "set r0 9/call 3/stop")
	for v, want := range map[int]uint16{0: 0, 1: 1, 65535: 65535, 65536: 0, -1: 65535, -65536: 0, 1<<32 + 5: 5, math.MaxInt: 65535, math.MinInt: 0} {
		expect(t, one, "", []int{v}, 100, Result{How: Over, Steps: 3, CPU: api.CPU{R: [8]uint16{want}, PC: 7}, Memory: filled(""), Calls: []Call{{N: 3}}})
	}
	for _, none := range [][]int{nil, {}} { // R2
		expect(t, one, "", none, 100, Result{How: Over, Steps: 3, CPU: api.CPU{PC: 7}, Memory: filled(""), Calls: []Call{{N: 3}}})
	}
}

func TestManyCalls(t *testing.T) { // as many as the most fuel allows
	s := read(t, "l:/call 1/mov r1 r0/jump l")
	answers := make([]int, MaxFuel)
	for i := range answers {
		answers[i] = i + 1
	}
	r, e := Run(s, "", answers, MaxFuel)
	if e != api.OK || r.How != Spent || r.Steps != 5000 || len(r.Calls) != 1667 {
		t.Fatalf("Run: %d, %d, %d calls, %v", r.How, r.Steps, len(r.Calls), e)
	}
	for i, c := range r.Calls {
		if c != (Call{1, [3]int{i, 0, 0}}) {
			t.Fatalf("call %d: %v", i, c)
		}
	}
}

func TestSpent(t *testing.T) { // 8.1: as many steps as there is fuel, and no more
	s := read(t, "set r1 1/set r2 2/l:/add r3 r1/store r3 r2/jump l")
	expect(t, s, "", nil, 0, Result{How: Spent, Memory: filled("")})
	expect(t, s, "", nil, 1, Result{How: Spent, Steps: 1, CPU: api.CPU{R: [8]uint16{0, 1}, PC: 4}, Memory: filled("")})
	expect(t, s, "", nil, 4, Result{How: Spent, Steps: 4, CPU: api.CPU{R: [8]uint16{0, 1, 2, 1}, PC: 12}, Memory: filled("\x00\x02")})
	expect(t, s, "", nil, 7, Result{How: Spent, Steps: 7, CPU: api.CPU{R: [8]uint16{0, 1, 2, 2}, PC: 12}, Memory: filled("\x00\x02\x02")})
	idle := read(t, "l:/jump l")
	for _, fuel := range []int{0, 1, 2, 4999, 5000} {
		expect(t, idle, "", nil, fuel, Result{How: Spent, Steps: fuel, Memory: filled("")})
	}
}

func TestLastFuel(t *testing.T) { // 8.1: the step that ends the run needs fuel too
	for s, how := range map[string]int{"\x02\x12\x00": Over, "\x02\x12": Broken, "\x01\x10\x01\x00\x0d\x01": Out} {
		for fuel, want := range []int{Spent, Spent, how, how} {
			if r, e := Run(s, "", nil, fuel); e != api.OK || r.How != want || r.Steps != min(fuel, 2) {
				t.Errorf("Run(%q, %d): %v, %v", s, fuel, r, e)
			}
		}
	}
}

func TestRunOfWrong(t *testing.T) { // 8.1, R1, R4
	code256, code257 := strings.Repeat("\x00", 256), strings.Repeat("\x00", 257)
	memory256, memory257 := strings.Repeat("m", 256), strings.Repeat("m", 257)
	longer := strings.Repeat("\x00", 1<<17)
	for _, x := range []struct {
		code, memory string
		fuel         int
		want         api.Errno
	}{
		{code256, memory256, 0, api.OK}, {code256, memory256, 5000, api.OK}, {"", "", 0, api.OK}, {"\xff\xff", "\xff", 5000, api.OK},
		{code257, "", 1, api.ErrLong}, {"", memory257, 1, api.ErrLong}, {code257, memory257, 1, api.ErrLong}, {longer, "", 1, api.ErrLong}, {"\x00", longer, 1, api.ErrLong},
		{"", "", -1, api.ErrArg}, {"", "", 5001, api.ErrArg}, {"\x00", "m", 5002, api.ErrArg}, {"", "", 1 << 32, api.ErrArg}, {"", "", 1<<32 + 1, api.ErrArg}, {"", "", math.MinInt, api.ErrArg}, {"", "", math.MaxInt, api.ErrArg},
		{code257, "", -1, api.ErrLong}, {"", memory257, 5001, api.ErrLong}, {code257, memory257, math.MaxInt, api.ErrLong},
	} {
		r, e := Run(x.code, x.memory, []int{1, 2}, x.fuel)
		if e != x.want {
			t.Errorf("Run of %d and %d bytes, %d: %v", len(x.code), len(x.memory), x.fuel, e)
		}
		if e != api.OK && !(alike(r, Result{}) && len(r.Calls) == 0) {
			t.Errorf("Run of %d and %d bytes, %d: %v beside %v", len(x.code), len(x.memory), x.fuel, r, e)
		}
	}
}

// loop is a code that does that many steps, the last of which ends it.
func loop(t *testing.T, steps int) string {
	s := read(t, "mov r1 r1/set r2 1/set r1 0/l:/sub r1 r2/other r1 l/stop")
	turns := (steps - 4) / 2
	if steps%2 == 1 {
		s = read(t, "set r2 1/set r1 0/l:/sub r1 r2/other r1 l/stop")
		turns = (steps - 3) / 2
	}
	at := strings.Index(s, "\x01\x10\x00\x00")
	return s[:at+2] + string([]byte{byte(turns / 256), byte(turns % 256)}) + s[at+4:]
}

func TestFuel(t *testing.T) { // 8.2
	for _, steps := range []int{5, 6, 7, 8, 100, 101, 4096, 4998, 4999, 5000} {
		if n, ok := Fuel(loop(t, steps), "", nil); n != steps || !ok {
			t.Errorf("Fuel of %d steps: %d, %v", steps, n, ok)
		}
	}
	for _, steps := range []int{5001, 5002, 5003, 10000} { // R4
		if n, ok := Fuel(loop(t, steps), "", nil); n != 0 || ok {
			t.Errorf("Fuel of %d steps: %d, %v", steps, n, ok)
		}
	}
	for s, want := range map[string]int{"\x00": 1, "": 1, "\xff": 1, "\x02\x12": 2, "\x02\x12\x00": 2, "\x01\x10\x01\x00\x0d\x01\x00": 2, "\x01\x10\x00\xff\x0d\x01\x00": 3} {
		if n, ok := Fuel(s, "", nil); n != want || !ok {
			t.Errorf("Fuel(%q): %d, %v", s, n, ok)
		}
	}
}

func TestFuelHangsOnMemoryAndAnswers(t *testing.T) { // 8.2
	s := read(t, "load r1 r0/call 1/add r1 r0/zero r1 z/mov r2 r2/z:/stop")
	for _, x := range []struct {
		memory  string
		answers []int
		want    int
	}{{"", nil, 5}, {"\x01", nil, 6}, {"", []int{0, 7}, 5}, {"", []int{7}, 6}, {"\x01", []int{-1}, 5}, {"\x00\x01", nil, 5}} {
		if n, ok := Fuel(s, x.memory, x.answers); n != x.want || !ok {
			t.Errorf("Fuel(%q, %v): %d, %v", x.memory, x.answers, n, ok)
		}
	}
}

func TestFuelOfWrong(t *testing.T) { // 8.2, R4
	for _, x := range []struct{ code, memory string }{
		{strings.Repeat("\x00", 257), ""}, {"\x00", strings.Repeat("\x00", 257)}, {strings.Repeat("\x00", 1<<17), strings.Repeat("\x00", 1<<17)}, {"\x11\xff\xfd", ""},
	} {
		if n, ok := Fuel(x.code, x.memory, []int{1}); n != 0 || ok {
			t.Errorf("Fuel of %d and %d bytes: %d, %v", len(x.code), len(x.memory), n, ok)
		}
	}
	if n, ok := Fuel(strings.Repeat("\x00", 256), strings.Repeat("\x00", 256), nil); n != 1 || !ok {
		t.Errorf("Fuel: %d, %v", n, ok)
	}
}

// thrown is a code of some instructions, most of which stay within it and within the memory.
func thrown(seed *uint32) string {
	var l []code.Inst
	for range 4 + next(seed)%20 {
		i := code.Inst{Op: next(seed) % 21}
		if i.Op == code.Stop && next(seed)%3 > 0 {
			i.Op = code.Call
		}
		switch i.Op {
		case code.Stop:
		case code.Call:
			i.N = next(seed) % 256
		case code.Jump:
			i.N = (next(seed)%40 - 24) & 65535
		case code.Zero, code.Other:
			i.A, i.N = next(seed)%8, (next(seed)%40-24)&65535
		case code.Set:
			i.A, i.N = next(seed)%8, next(seed)%260
		default:
			i.A, i.B = next(seed)%8, next(seed)%8
		}
		l = append(l, i)
	}
	s, _ := code.Join(l)
	return s
}

func thrownAnswers(seed *uint32) []int {
	var l []int
	for range next(seed) % 6 {
		l = append(l, next(seed)-1<<20)
	}
	return l
}

func thrownMemory(seed *uint32) string {
	b := make([]byte, next(seed)%257)
	for i := range b {
		b[i] = byte(next(seed))
	}
	return string(b)
}

// plain is a run by the chapters' words, without layer 7.
type plain struct {
	r       [8]int
	pc      int
	memory  []int
	answers []int
	calls   []Call
	how     int
}

func (p *plain) step(s string) {
	i, behind, e := code.At(s, p.pc)
	if e != api.OK {
		p.how = Broken
		return
	}
	a, b, from := p.r[i.A], p.r[i.B], p.pc
	p.pc = behind
	switch i.Op {
	case code.Stop:
		p.how = Over
	case code.Set:
		p.r[i.A] = i.N
	case code.Mov:
		p.r[i.A] = b
	case code.Add:
		p.r[i.A] = (a + b) % 65536
	case code.Sub:
		p.r[i.A] = (a - b + 65536) % 65536
	case code.And:
		p.r[i.A] = a & b
	case code.Or:
		p.r[i.A] = a | b
	case code.Xor:
		p.r[i.A] = a ^ b
	case code.Shl:
		p.r[i.A] = a << (b % 16) % 65536
	case code.Shr:
		p.r[i.A] = a >> (b % 16)
	case code.Mul:
		p.r[i.A] = a * b % 65536
	case code.Less:
		p.r[i.A] = max(0, min(1, b-a))
	case code.Same:
		p.r[i.A] = max(0, 1-max(a-b, b-a))
	default:
		p.goOn(i, a, b, from)
	}
}

// goOn does what is no counting.
func (p *plain) goOn(i code.Inst, a, b, from int) {
	if i.Op == code.Jump || i.Op == code.Zero && a == 0 || i.Op == code.Other && a != 0 {
		p.pc = (p.pc + i.N) % 65536
	}
	if i.Op == code.Call {
		p.calls = append(p.calls, Call{i.N, [3]int{p.r[1], p.r[2], p.r[3]}})
		p.r[0] = 0
		if len(p.answers) >= len(p.calls) {
			p.r[0] = (p.answers[len(p.calls)-1]%65536 + 65536) % 65536
		}
	}
	last := map[int]int{code.Load: b, code.LoadW: b + 1, code.Store: a, code.StoreW: a + 1}
	if end, is := last[i.Op]; is && end > 255 {
		p.how, p.pc = Out, from
		return
	}
	switch i.Op {
	case code.Load:
		p.r[i.A] = p.memory[b]
	case code.LoadW:
		p.r[i.A] = p.memory[b]*256 + p.memory[b+1]
	case code.Store:
		p.memory[a] = b % 256
	case code.StoreW:
		p.memory[a], p.memory[a+1] = b/256, b%256
	}
}

func plainRun(s, memory string, answers []int, fuel int) Result {
	p := &plain{memory: make([]int, 256), answers: answers}
	for i := range len(memory) {
		p.memory[i] = int(memory[i])
	}
	steps := 0
	for ; steps < fuel && p.how == 0; steps++ {
		p.step(s)
	}
	if p.how == 0 {
		p.how = Spent
	}
	r := Result{How: p.how, Steps: steps, Calls: p.calls}
	for i, v := range p.r {
		r.CPU.R[i] = uint16(v)
	}
	r.CPU.PC = uint16(p.pc)
	for _, v := range p.memory {
		r.Memory += string([]byte{byte(v)})
	}
	return r
}

func TestRunIsPlain(t *testing.T) { // 8.1
	seed := uint32(3)
	ends := [5]int{}
	for range 6000 {
		s, m, l, fuel := thrown(&seed), thrownMemory(&seed), thrownAnswers(&seed), next(&seed)%120
		want := plainRun(s, m, l, fuel)
		ends[want.How]++
		expect(t, s, m, l, fuel, want)
		if t.Failed() {
			return
		}
	}
	if slices.Min(ends[1:]) < 100 {
		t.Errorf("too few of one end: %v", ends)
	}
}

func TestRunOfAnyBytes(t *testing.T) { // the bound: it never panics, and is plain too
	seed := uint32(5)
	for range 6000 {
		s := make([]byte, next(&seed)%257)
		for i := range s {
			s[i] = byte(next(&seed) % 24)
			if next(&seed)%9 == 0 {
				s[i] = byte(next(&seed))
			}
		}
		m, l, fuel := thrownMemory(&seed), thrownAnswers(&seed), next(&seed)%300
		expect(t, string(s), m, l, fuel, plainRun(string(s), m, l, fuel))
		if t.Failed() {
			return
		}
	}
}

// 8.2 and 8.3: below the least fuel a run is Spent, and the beginning of those with more; from it on it is the same.
func TestMoreFuel(t *testing.T) {
	seed := uint32(9)
	for range 300 {
		s, m, l := thrown(&seed), thrownMemory(&seed), thrownAnswers(&seed)
		least, ok := Fuel(s, m, l)
		if !ok {
			least = MaxFuel + 1
		}
		last, _ := Run(s, m, l, MaxFuel)
		for fuel := range 60 {
			r, e := Run(s, m, l, fuel)
			if e != api.OK || (r.How == Spent) != (fuel < least) {
				t.Fatalf("Run(%q, %d): %v, %v; the least is %d", s, fuel, r, e, least)
			}
			if r.How != Spent && !alike(r, last) {
				t.Fatalf("Run(%q, %d): %v, not %v", s, fuel, r, last)
			}
			if len(r.Calls) > len(last.Calls) || !slices.Equal(r.Calls, last.Calls[:len(r.Calls)]) || r.Steps > last.Steps {
				t.Fatalf("Run(%q, %d): %v, no beginning of %v", s, fuel, r, last)
			}
		}
	}
}

func TestMoreAnswers(t *testing.T) { // 8.4
	seed := uint32(13)
	for range 2000 {
		s, m, l, fuel := thrown(&seed), thrownMemory(&seed), thrownAnswers(&seed), next(&seed)%200
		r, e := Run(s, m, l, fuel)
		asked := append(slices.Clone(l), make([]int, 200)...)[:len(r.Calls)] // 0, where none is left
		for _, more := range [][]int{asked, append(slices.Clone(asked), 7), append(slices.Clone(asked), -1, math.MaxInt, math.MinInt)} {
			if again, e2 := Run(s, m, more, fuel); !alike(r, again) || e != e2 {
				t.Fatalf("Run(%q, %v, %d): %v, not %v", s, more, fuel, again, r)
			}
		}
	}
}

func TestNothingIsShared(t *testing.T) { // R3, R6
	s := read(t, "set r1 3/l:/call 5/store r0 r1/sub r1 r0/other r1 l/stop")
	room := []int{1, 1, 1, 8, 9}
	answers := room[:3]
	r, _ := Run(s, "mem", answers, 100)
	n, ok := Fuel(s, "mem", answers)
	if !slices.Equal(room, []int{1, 1, 1, 8, 9}) || n != r.Steps || !ok {
		t.Errorf("answers: %v; Fuel: %d, %v", room, n, ok)
	}
	again, _ := Run(s, "mem", answers, 100)
	if !alike(r, again) || len(r.Calls) != 3 {
		t.Fatalf("Run: %v, then %v", r, again)
	}
	calls := slices.Clone(again.Calls)
	whole := r.Calls[:cap(r.Calls)]
	for i := range whole {
		whole[i] = Call{99, [3]int{9, 9, 9}}
	}
	clear(room)
	if !slices.Equal(again.Calls, calls) {
		t.Errorf("calls: %v", again.Calls)
	}
	if third, _ := Run(s, "mem", []int{1, 1, 1}, 100); !alike(third, again) {
		t.Errorf("Run: %v, then %v", again, third)
	}
}
