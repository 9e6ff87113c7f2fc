package asm

import (
	"math"
	"regexp"
	"slices"
	"strconv"
	"strings"
	"testing"

	"imago/api"
	"imago/code"
)

var names = strings.Fields("stop set mov add sub and or xor shl shr mul less same load store loadw storew jump zero other call")

func reads(t *testing.T, text, want string) {
	t.Helper()
	if s, bad := Read(text); s != want || bad != 0 {
		t.Errorf("Read(%q): %q, %d, not %q", text, s, bad, want)
	}
}

func wrong(t *testing.T, text string, want int) {
	t.Helper()
	if s, bad := Read(text); s != "" || bad != want { // R4
		t.Errorf("Read(%q): %q, %d, not %d", text, s, bad, want)
	}
}

// lines is a text of lines that are told between slashes.
func lines(s string) string { return strings.ReplaceAll(s, "/", "\n") }

func TestName(t *testing.T) { // 6.2
	for op, name := range names {
		if Name(op) != name {
			t.Errorf("Name(%d): %q", op, Name(op))
		}
	}
	for _, op := range []int{math.MinInt, math.MinInt32, -256, -1, 21, 22, 256, 1 << 32, 1<<32 + 1, math.MaxInt} {
		if Name(op) != "" {
			t.Errorf("Name(%d): %q", op, Name(op))
		}
	}
}

// shapeOf are the words behind an op's name, by the chapter of layer 5: r a register, n a number, l a number or a label.
func shapeOf(op int) string {
	switch {
	case op == code.Stop:
		return ""
	case op == code.Set:
		return "rn"
	case op <= code.StoreW:
		return "rr"
	case op == code.Jump:
		return "l"
	case op == code.Call:
		return "n"
	}
	return "rl"
}

// some is an instruction of an op, with such registers and such a number, as far as it has them.
func some(op, a, b, n int) code.Inst {
	i := code.Inst{Op: op}
	shape := shapeOf(op)
	if strings.HasPrefix(shape, "r") {
		i.A = a
	}
	if shape == "rr" {
		i.B = b
	}
	if strings.ContainsAny(shape, "nl") {
		i.N = n
	}
	if op == code.Call {
		i.N %= 256
	}
	return i
}

// lineOf is a right instruction's line, by the chapter's words.
func lineOf(i code.Inst) string {
	r := " r"
	switch shapeOf(i.Op) {
	case "":
		return names[i.Op]
	case "rr":
		return names[i.Op] + r + strconv.Itoa(i.A) + r + strconv.Itoa(i.B)
	case "rn", "rl":
		return names[i.Op] + r + strconv.Itoa(i.A) + " " + strconv.Itoa(i.N)
	}
	return names[i.Op] + " " + strconv.Itoa(i.N)
}

func TestLine(t *testing.T) { // 6.2, 6.3
	for op := range names {
		for a := range 8 {
			for _, n := range []int{0, 1, 9, 10, 255, 256, 999, 10000, 65535} {
				i := some(op, a, 7-a, n)
				line, e := Line(i)
				if line != lineOf(i) || e != api.OK {
					t.Errorf("Line(%v): %q, %v", i, line, e)
				}
				s, _ := code.Bytes(i)
				reads(t, line, s)
			}
		}
	}
	for _, i := range []code.Inst{{Op: 21}, {Op: -1}, {Op: 1 << 32}, {Op: math.MinInt}, {Op: math.MaxInt}, {Op: code.Stop, A: 1}, {Op: code.Stop, N: 1},
		{Op: code.Set, A: 8}, {Op: code.Set, A: -1}, {Op: code.Set, B: 1}, {Op: code.Set, N: 65536}, {Op: code.Set, N: -1}, {Op: code.Mov, N: 1}, {Op: code.Mov, B: 8},
		{Op: code.Jump, A: 1}, {Op: code.Jump, N: 65536}, {Op: code.Call, N: 256}, {Op: code.Call, B: 1}, {Op: code.Call, N: math.MinInt}} {
		if line, e := Line(i); line != "" || e != api.ErrForm {
			t.Errorf("Line(%v): %q, %v", i, line, e)
		}
	}
}

func TestLines(t *testing.T) { // 6.2
	l, e := Lines("\x01\x10\x00\x0a\x12\x10\x00\x05\x04\x12\x11\xff\xf7\x00")
	if want := []string{"set r1 10", "zero r1 5", "sub r1 r2", "jump 65527", "stop"}; !slices.Equal(l, want) || e != api.OK {
		t.Errorf("Lines: %q, %v", l, e)
	}
	if l, e := Lines(""); len(l) != 0 || e != api.OK {
		t.Errorf("Lines: %q, %v", l, e)
	}
	if l, e := Lines(strings.Repeat("\x00", 256)); len(l) != 256 || e != api.OK {
		t.Errorf("Lines: %q, %v", l, e)
	}
	for s, want := range map[string]api.Errno{strings.Repeat("\x00", 257): api.ErrLong, strings.Repeat("\xff", 257): api.ErrLong, "\x15": api.ErrForm, "\x00\x03": api.ErrForm, "\x00\x01\x81\x00\x00": api.ErrForm} {
		if l, e := Lines(s); len(l) != 0 || e != want {
			t.Errorf("Lines(%q): %q, %v", s, l, e)
		}
	}
}

func TestLinesAnswersNewMemory(t *testing.T) { // R3
	a, _ := Lines("\x00\x03\x12\x00")
	b, _ := Lines("\x00\x03\x12\x00")
	a = a[:cap(a)]
	for i := range a {
		a[i] = "x"
	}
	if !slices.Equal(b, []string{"stop", "add r1 r2", "stop"}) {
		t.Errorf("Lines: %q", b)
	}
}

func TestExample(t *testing.T) {
	reads(t, lines("set r1 3/loop:/sub r1 r2/other r1 loop"), "\x01\x10\x00\x03\x04\x12\x13\x10\xff\xfa")
}

func TestReadSpaces(t *testing.T) { // 6.1: words between bytes 32 and 9, up to a ; or byte 10
	for _, text := range []string{"", "\n", "\n\n\n", " ", "\t", " \t \n\t", ";", "; stop", ";\n;;\n ;", ";\x00\xff\r"} {
		reads(t, text, "")
	}
	for _, text := range []string{"add r1 r2", " add r1 r2", "\tadd\tr1\tr2\t", "  add \t r1\t\t r2  ", "add r1 r2\n", "\n\nadd r1 r2\n\n", "add r1 r2;", "add r1 r2;x", "add r1 r2 ; x y z", "add r1 r2 ;;", "add r1 r2;\xff\r", "; add r3 r4\nadd r1 r2"} {
		reads(t, text, "\x03\x12")
	}
	for _, text := range []string{"add r1 r2\r", "add r1\vr2", "add\fr1 r2", "add\u00a0r1 r2", "add r1 r2\u0085", "add r1\x00r2", "\ufeffadd r1 r2", "add r1 r2 \r", "\r", "\x00", "\x0b", "add r1, r2", "add; r1 r2", "add r1; r2"} {
		wrong(t, text, 1)
	}
	wrong(t, "stop\r\nstop\r\n", 1)
	wrong(t, "stop\n\n\x80", 3)
}

func TestReadWords(t *testing.T) { // 6.1: a wrong word, too few or too many
	right := map[byte]string{'r': "r1", 'n': "7", 'l': "7"}
	other := map[byte][]string{
		'r': {"7", "x", "r", "r8", "r9", "r-1", "r00", "r10", "R1", "1r", "r1r", "rr", "r1:", "r1,", "r/", "r:", "\xff", "r\xff", "r\xb1", "ŕ1", "stop"},
		'n': {"r1", "x", "y", "-1", "+1", "65536", "99999", "100000", "000007", "0x7", "1e3", "7.", "7,", "1_0", "/", "1/", "1:", ":", "x:", "\xff", "\xb1", "٣", "stop"},
		'l': {"r1", "y", "-1", "+1", "65536", "99999", "100000", "000007", "0x7", "1e3", "7.", "7,", "1_0", "/", "1/", "1:", ":", "x:", "X", "xx", "\xff", "٣", "stop"},
	}
	for op, name := range names {
		shape := shapeOf(op)
		words := []string{name}
		for i := range len(shape) {
			words = append(words, right[shape[i]])
		}
		if s, bad := Read(strings.Join(words, " ")); len(s) != code.Size(op) || bad != 0 {
			t.Errorf("Read(%q): %q, %d", words, s, bad)
		}
		for n := 1; n < len(words); n++ { // too few
			wrong(t, "x:\n"+strings.Join(words[:n], " "), 2)
		}
		for _, more := range []string{"r1", "7", "x", "stop", ":", "x:", "r1 r2", "r1 r2 r3 r4 r5"} { // too many
			wrong(t, "x:\n"+strings.Join(words, " ")+" "+more, 2)
		}
		for i := range len(shape) {
			for _, w := range other[shape[i]] {
				changed := slices.Clone(words)
				changed[i+1] = w
				wrong(t, "x:\n"+strings.Join(changed, " "), 2)
			}
		}
	}
	for _, word := range []string{"Stop", "STOP", "sto", "stopp", "stop.", "nop", "r1", "7", "x", "stop\xff", "jumps", "-", ":", "a b:", "stop stop"} {
		wrong(t, word, 1)
		wrong(t, "stop\n"+word+"\nstop", 2)
	}
}

func TestReadNumbers(t *testing.T) { // 6.1: 1 to 5 digits, within the shape's range
	for word, n := range map[string]int{"0": 0, "00000": 0, "7": 7, "07": 7, "00007": 7, "255": 255, "00255": 255} {
		reads(t, "call "+word, "\x14"+string([]byte{byte(n)}))
		reads(t, "jump "+word, "\x11\x00"+string([]byte{byte(n)}))
	}
	reads(t, "set r7 65535", "\x01\x70\xff\xff")
	reads(t, "set r7 256", "\x01\x70\x01\x00")
	for _, n := range []int{0, 9, 10, 255, 256, 4096, 9999, 10000, 65535} {
		s, _ := code.Bytes(code.Inst{Op: code.Zero, A: 3, N: n})
		reads(t, "zero r3 "+strconv.Itoa(n), s)
	}
	for _, text := range []string{"call 256", "call 65535", "call 00256", "call 000255", "set r1 65536", "jump 65536", "jump 99999", "zero r1 65536", "other r1 70000", "set r1 000001", "jump 4294967296", "set r1 18446744073709551616"} {
		wrong(t, text, 1)
	}
}

func TestReadLabels(t *testing.T) { // 6.1
	for text, want := range map[string]string{
		"a:":                              "",
		"abcdefghijkl:":                   "",
		"a:/b:/ab:/ba:":                   "",
		"z: ; zet/\ty:\t;":                "",
		"x:;y:":                           "",
		"x:/jump x":                       "\x11\xff\xfd",
		"jump x/x:":                       "\x11\x00\x00",
		"jump x/stop/x:":                  "\x11\x00\x01\x00",
		"stop/x:/stop/jump x":             "\x00\x00\x11\xff\xfc",
		"zero r1 x/x:/other r2 x":         "\x12\x10\x00\x00\x13\x20\xff\xfc",
		"stop:/jump:/jump stop/stop":      "\x11\xff\xfd\x00",
		"r:/other r1 r":                   "\x13\x10\xff\xfc",
		"x:/y:/jump y/jump x":             "\x11\xff\xfd\x11\xff\xfa",
		"jump x/call 1/set r1 2/x:":       "\x11\x00\x06\x14\x01\x01\x10\x00\x02",
		"jump x/jump x/jump x/x:/stop":    "\x11\x00\x06\x11\x00\x03\x11\x00\x00\x00",
		"jump abcdefghijkl/abcdefghijkl:": "\x11\x00\x00",
	} {
		reads(t, lines(text), want)
	}
	for text, want := range map[string]int{
		":": 1, "A:": 1, "aB:": 1, "a1:": 1, "r1:": 1, "7:": 1, "a-b:": 1, "a::": 1, "::": 1, "a:b:": 1, "a:b": 1, "é:": 1, "\xff:": 1, "`:": 1, "{:": 1,
		"abcdefghijklm:": 1, "a: b:": 1, "a: stop": 1, "stop a:": 1, "a :": 1, ": a": 1, "a:/stop :": 2,
		"x:/x:": 2, "x:/stop/x:": 3, "x:/y:/x:/y:": 3, "x:/ x: ;": 2, "x:/jump x/x:/foo": 3,
		"jump x": 1, "stop/jump x": 2, "jump x:/x:": 1, "x:/jump x:": 2, "jump X/x:": 1, "jump xx/x:": 1, "jump x/xx:": 1, "stop:/jump stop/jump jump": 3, "jump abcdefghijkl/stop/ab:": 1,
		"jump x/x: x:": 1, "jump x/x: stop": 1, "jump x/X:": 1, "jump x/;x:": 1, "jump abcdefghijklm/abcdefghijklm:": 1,
		"x:/set r1 x": 2, "x:/call x": 2, "set r1 x/x:": 1, "call x/stop/x:": 1, "jump x/call x/x:": 2, "x:/add r1 x": 2, "x:/zero x 1": 2, "x:/jump x x": 2, "x:/x": 2, "r:/zero r r": 2,
	} {
		wrong(t, lines(text), want)
	}
}

func TestReadFirstWrongLine(t *testing.T) { // 6.1: labels are those of all lines, those behind a wrong one too
	for text, want := range map[string]int{
		"jump x/foo/x:": 2, "jump x/foo": 1, "foo/jump x": 1, "stop/foo/foo": 2, "jump x/x:/x:": 3, "jump y/x:/x:": 1,
		"jump x/foo/x:/x:": 2, "/;/ /foo/bar": 4, "x:/foo/x:": 2, "jump x/add r1/x:": 2, "jump x/jump y/x:": 2, "jump x/jump y/y:": 1,
	} {
		wrong(t, lines(text), want)
	}
}

func TestReadLong(t *testing.T) { // 6.1: MaxCode comes behind all that is wrong by itself
	stops := func(n int) string { return strings.Repeat("stop\n", n) }
	reads(t, stops(256), strings.Repeat("\x00", 256))
	reads(t, stops(256)+"\nx:\n;", strings.Repeat("\x00", 256))
	reads(t, stops(252)+"set r1 1", strings.Repeat("\x00", 252)+"\x01\x10\x00\x01")
	reads(t, "jump x\n"+stops(253)+"x:", "\x11\x00\xfd"+strings.Repeat("\x00", 253))
	reads(t, "x:\n"+stops(253)+"jump x", strings.Repeat("\x00", 253)+"\x11\xff\x00")
	wrong(t, stops(257), 257)
	wrong(t, stops(300), 257)
	wrong(t, "\n;\nx:\n"+stops(300), 260)
	wrong(t, stops(253)+"set r1 1", 254)
	wrong(t, stops(253)+"\nset r1 1\nstop", 255)
	wrong(t, stops(255)+"set r1 1\nstop\nstop", 256)
	wrong(t, strings.Repeat("set r1 1\n", 65), 65)
	wrong(t, stops(256)+"\n\nstop\n\n", 259)
	wrong(t, stops(300)+"foo", 301)
	wrong(t, stops(300)+"jump x", 301)
	wrong(t, stops(300)+"x:\nx:", 302)
	wrong(t, "jump x\n"+stops(300)+"x:", 255)
	wrong(t, "jump y\n"+stops(300)+"x:", 1)
	wrong(t, strings.Repeat("jump x\n", 20000)+"x:", 86)
	wrong(t, strings.Repeat("\n", 100000)+"foo", 100001)
	wrong(t, strings.Repeat("a ", 100000), 1)
	wrong(t, strings.Repeat("a", 100000)+":", 1)
	wrong(t, "jump "+strings.Repeat("7", 100000), 1)
}

// next is a pseudo-random number from 0 to less than most.
func next(seed *uint32, most int) int {
	*seed = *seed*1664525 + 1013904223
	return int(*seed>>8) % most
}

func TestReadOfLinesIsTheCode(t *testing.T) { // 6.3
	seed := uint32(2)
	for range 1000 {
		s := ""
		for {
			one, e := code.Bytes(some(next(&seed, 21), next(&seed, 8), next(&seed, 8), next(&seed, 65536)))
			if e != api.OK {
				t.Fatal(e)
			}
			if len(s)+len(one) > api.MaxCode || next(&seed, 100) == 0 {
				break
			}
			s += one
		}
		l, e := Lines(s)
		if e != api.OK {
			t.Fatalf("Lines(%q): %v", s, e)
		}
		reads(t, strings.Join(l, "\n"), s)
		reads(t, strings.Join(l, " ; x\n\n\t")+"\n", s)
	}
}

// A plain model of Read, by patterns.
var (
	labelLine = regexp.MustCompile(`^([a-z]{1,12}):$`)
	instLine  = regexp.MustCompile(`^(?:stop|set r[0-7] [0-9]{1,5}|(?:mov|add|sub|and|or|xor|shl|shr|mul|less|same|load|store|loadw|storew) r[0-7] r[0-7]|jump ([a-z]{1,12}|[0-9]{1,5})|(?:zero|other) r[0-7] ([a-z]{1,12}|[0-9]{1,5})|call [0-9]{1,5})$`)
	gaps      = regexp.MustCompile(`[ \t]+`)
)

// modelLine is a line with one space between its words.
func modelLine(line string) string {
	line, _, _ = strings.Cut(line, ";")
	return strings.Trim(gaps.ReplaceAllString(line, " "), " ")
}

func modelRead(text string) (string, int) {
	all := strings.Split(text, "\n")
	places := map[string]int{}
	place, bad := 0, 0
	for i, line := range all {
		line = modelLine(line)
		first, _, _ := strings.Cut(line, " ")
		if m := labelLine.FindStringSubmatch(line); m != nil {
			if _, there := places[m[1]]; !there {
				places[m[1]] = place
			} else if bad == 0 {
				bad = i + 1
			}
		} else if instLine.MatchString(line) {
			place += code.Size(slices.Index(names, first))
		} else if line != "" && bad == 0 {
			bad = i + 1
		}
	}
	out, long := "", 0
	for i, line := range all {
		if bad == i+1 {
			return "", bad
		}
		words := strings.Fields(modelLine(line))
		if len(words) == 0 || strings.HasSuffix(words[0], ":") {
			continue
		}
		inst := code.Inst{Op: slices.Index(names, words[0])}
		size := code.Size(inst.Op)
		for j, w := range words[1:] {
			if p, there := places[w]; there {
				inst.N = (p - len(out) - size + 65536) % 65536
			} else if n, err := strconv.Atoi(w); err == nil {
				inst.N = n
			} else if w[0] != 'r' || len(w) != 2 {
				return "", i + 1
			} else if j == 0 {
				inst.A = int(w[1] - '0')
			} else {
				inst.B = int(w[1] - '0')
			}
		}
		s, e := code.Bytes(inst)
		if e != api.OK {
			return "", i + 1
		}
		if out += s; len(out) > api.MaxCode && long == 0 {
			long = i + 1
		}
	}
	if long > 0 {
		return "", long
	}
	return out, 0
}

// someLine is a line that is mostly right.
func someLine(seed *uint32) string {
	marks := []string{"a", "b", "loop", "end", "stop", "abcdefghijkl"}
	switch next(seed, 12) {
	case 0, 1:
		return marks[next(seed, len(marks))] + ":"
	case 2:
		return []string{"", " ", "; x", "\t;"}[next(seed, 4)]
	case 3:
		return strings.Join([]string{[]string{"jump", "zero r1", "other\tr2"}[next(seed, 3)], marks[next(seed, len(marks))]}, " ")
	}
	line := lineOf(some(next(seed, 21), next(seed, 8), next(seed, 8), next(seed, 65536)))
	if next(seed, 60) == 0 { // mostly wrong
		i := next(seed, len(line))
		line = line[:i] + []string{"", " ", "r", "7", "a", ":", ";", "\r", "\xff"}[next(seed, 9)] + line[i+1:]
	}
	return line
}

func TestReadAsTheModel(t *testing.T) { // 6.1
	seed := uint32(3)
	right, long := 0, 0
	for range 20000 {
		var all []string
		for range next(&seed, 12) {
			all = append(all, someLine(&seed))
		}
		if next(&seed, 10) == 0 {
			all = append(all, strings.Repeat("stop\n", 200+next(&seed, 60)))
		}
		text := strings.Join(all, "\n")
		want, bad := modelRead(text)
		if bad == 0 {
			right++
		} else if bad > 100 {
			long++
		}
		if s, got := Read(text); s != want || got != bad {
			t.Fatalf("Read(%q): %q, %d, not %q, %d", text, s, got, want, bad)
		}
	}
	if right < 1000 || long < 30 {
		t.Errorf("%d right texts, %d long ones: too few to tell", right, long)
	}
}
