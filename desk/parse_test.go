package desk

import (
	"reflect"
	"regexp"
	"strconv"
	"strings"
	"testing"

	"imago/asm"
	"imago/caps"
	"imago/kern"
	"imago/snap"
	"imago/upgrade"
	"imago/world"
)

// is wants that lines are these operations.
func is(t *testing.T, text string, want ...world.Op) {
	t.Helper()
	l, bad := Parse(text)
	if bad != 0 || len(l) != len(want) {
		t.Fatalf("Parse(%q): %v, %d", text, l, bad)
	}
	for i, o := range l {
		if !reflect.DeepEqual(o, want[i]) {
			t.Fatalf("Parse(%q): %v, not %v", text, o, want[i])
		}
	}
}

// wrong wants that a line is wrong.
func wrong(t *testing.T, text string, want int) {
	t.Helper()
	if l, bad := Parse(text); len(l) != 0 || bad != want {
		t.Errorf("Parse(%q): %v, %d, not %d", text, l, bad, want)
	}
}

func TestLines(t *testing.T) { // 36.1: each line's operation
	is(t, "begin 1 2 3 4 5 call_14", world.Op{What: 1, Env: 1, Version: 2, Quota: [3]int{3, 4, 5}, Programs: []string{"\x14\x0e"}})
	is(t, "raw 1 2 3 4 5", world.Op{What: 1, Env: 1, Version: 2, Quota: [3]int{3, 4, 5}})
	is(t, "end 3", world.Op{What: 2, Env: 3})
	is(t, "turn 7 8", world.Op{What: 3, N: 7, PID: 8})
	is(t, "ask 1 2 300", world.Op{What: 4, Env: 1, Wish: upgrade.Wish{Script: snap.Script, Tries: 2, Space: 300}})
	is(t, "bad 1 2 300", world.Op{What: 4, Env: 1, Wish: upgrade.Wish{Tries: 2, Space: 300}})
	is(t, "fail 1 6", world.Op{What: 5, Env: 1, N: 6})
	is(t, "bind 1 3", world.Op{What: 6, Env: 1, Call: kern.Call{What: 1, A: 3}})
	is(t, "send 1 2 500", world.Op{What: 6, Env: 1, Call: kern.Call{What: 12, A: 2, B: 500}})
	is(t, "get 1 2 3 4", world.Op{What: 6, Env: 1, Call: kern.Call{What: 5, H: caps.Handle{Slot: 2, Gen: 3}, A: 4}})
	is(t, "free 1 2 3", world.Op{What: 6, Env: 1, Call: kern.Call{What: 2, H: caps.Handle{Slot: 2, Gen: 3}}})
	is(t, "end 1\nend 2\nend 1", world.Op{What: 2, Env: 1}, world.Op{What: 2, Env: 2}, world.Op{What: 2, Env: 1})
}

func TestNumbers(t *testing.T) { // 36.1: numbers have 1 to 5 digits, with a - ahead or not
	for word, n := range map[string]int{"0": 0, "7": 7, "99999": 99999, "00000": 0, "00012": 12, "-0": 0, "-1": -1, "-99999": -99999, "-00012": -12} {
		is(t, "end "+word, world.Op{What: 2, Env: n})
		is(t, "turn 1 "+word, world.Op{What: 3, N: 1, PID: n})
	}
	for _, word := range []string{"x", "-", "--1", "+1", "100000", "000001", "-123456", "1-", "1x", "x1", "0x1", "1_1", "1.", "/", ":", "\xff", "１", "1\t", "\t1", "1\r", "1\x00", "12345678901234567890"} {
		wrong(t, "end "+word, 1)
		wrong(t, "turn "+word+" 1", 1)
		wrong(t, "begin 1 1 1 1 "+word+" stop", 1)
	}
}

func TestCounts(t *testing.T) { // 36.1: too few or too many words, or another one
	for line, n := range map[string]int{"raw": 5, "end": 1, "turn": 2, "ask": 3, "bad": 3, "fail": 2, "bind": 2, "send": 3, "get": 4, "free": 3} {
		for has := range 9 {
			text := line + strings.Repeat(" 1", has)
			if l, bad := Parse(text); has == n && (bad != 0 || len(l) != 1) || has != n && (bad != 1 || l != nil) {
				t.Errorf("Parse(%q): %v, %d", text, l, bad)
			}
		}
		wrong(t, line+strings.Repeat(" 1", n)+" stop", 1)
		wrong(t, strings.ToUpper(line)+strings.Repeat(" 1", n), 1)
		wrong(t, line[1:]+strings.Repeat(" 1", n), 1)
		wrong(t, line+"s"+strings.Repeat(" 1", n), 1)
	}
	for has := range 9 {
		wrong(t, "begin"+strings.Repeat(" 1", has), 1)
	}
	for n := range 11 {
		l, bad := Parse("begin 1 1 1 1 1" + strings.Repeat(" stop", n))
		if right := n >= 1 && n <= 8; right && (bad != 0 || len(l[0].Programs) != n) || !right && (bad != 1 || l != nil) {
			t.Errorf("%d programs: %v, %d", n, l, bad)
		}
	}
	wrong(t, "1", 1)
	wrong(t, "turn1 1", 1)
	wrong(t, "\tend 1", 1)
	wrong(t, "end 1;", 1)
}

func TestSpaces(t *testing.T) { // 36.1: words between spaces, up to a # or the line's end; empty lines are passed over
	end := world.Op{What: 2, Env: 1}
	for _, text := range []string{"end 1", " end 1", "end  1", "   end    1   ", "end 1\n", "\n\nend 1\n\n", "end 1#", "end 1 # 2 3 x", "end 1#2", "#\nend 1", " # end 2\n  \nend 1", "end 1 ## # \n# turn"} {
		is(t, text, end)
	}
	for _, text := range []string{"", " ", "\n", "\n\n\n", "#", "# x", " #\n#", "#end 1"} {
		is(t, text)
	}
	wrong(t, "end#1", 1)
	wrong(t, "end # 1", 1)
	wrong(t, "end\n1", 1)
	wrong(t, "end\t1", 1)
	wrong(t, "end 1\r\n", 1)
}

func TestFirstWrong(t *testing.T) { // 36.1: none, and the number of the first line that is wrong
	wrong(t, "end 1\nend\nend 1", 2)
	wrong(t, "\n\n# x\nend 1\n\nend x\nfoo\n", 6)
	wrong(t, "end 1\nend 1\nend 1 # x\nend # 1", 4)
	wrong(t, strings.Repeat("\n", 4000)+"x", 4001)
	wrong(t, "x\ny", 1)
}

func TestPrograms(t *testing.T) { // 36.1: an application's text, with / for the end of a line and _ for a space
	for word, want := range map[string]string{
		"stop":                           "\x00",
		"/":                              "",
		"_":                              "",
		";":                              "",
		";stop":                          "",
		"set_r1_513/call_14":             "\x01\x10\x02\x01\x14\x0e",
		"/_set__r1_513_//call_14;_x_/":   "\x01\x10\x02\x01\x14\x0e",
		"\tcall\t14":                     "\x14\x0e",
		"again:/jump_again":              "\x11\xff\xfd",
		"jump_end/end:":                  "\x11\x00\x00",
		strings.Repeat("stop/", 256):     strings.Repeat("\x00", 256),
		strings.Repeat("call_1/", 128):   strings.Repeat("\x14\x01", 128),
		strings.Repeat("/", 5000) + "_/": "",
	} {
		is(t, "begin 1 1 0 0 0 "+word, world.Op{What: 1, Env: 1, Version: 1, Programs: []string{want}})
		is(t, "begin 1 1 0 0 0 stop "+word+"  "+word+" # stop", world.Op{What: 1, Env: 1, Version: 1, Programs: []string{"\x00", want, want}})
	}
	for _, word := range []string{"foo", "call", "call_x", "call_14_1", "set_r8_1", "set_r1_65536", "call_14\\", "jump_again", "a:/a:", "stop\r", "stop//x", strings.Repeat("stop/", 257), strings.Repeat("call_1/", 129)} {
		for _, text := range []string{word, "stop " + word, word + " stop", "stop stop stop stop stop stop stop " + word} {
			wrong(t, "end 1\nbegin 1 1 0 0 0 "+text, 2)
		}
	}
	wrong(t, "begin 1 1 0 0 0 call 14", 1) // two programs
	wrong(t, "begin 1 1 0 0 0 #stop", 1)
}

func TestParsed(t *testing.T) { // R3, R6: operations of one answer share nothing, nor do those of two
	text := "begin 1 1 0 0 0 stop stop\nbegin 2 1 0 0 0 stop"
	l, m := parse(t, text), parse(t, text)
	l[0].Programs[0] = "x"
	_ = append(l[0].Programs[:1], "y", "z")
	if l[1].Programs[0] != "\x00" || m[0].Programs[0] != "\x00" || m[0].Programs[1] != "\x00" {
		t.Errorf("%v, %v", l, m)
	}
}

// plainLine is a line's operation by the table's words; nil, if it is wrong.
func plainLine(line string) *world.Op {
	kinds := map[string]int{"begin": 5, "raw": 5, "end": 1, "turn": 2, "ask": 3, "bad": 3, "fail": 2, "bind": 2, "send": 3, "get": 4, "free": 3}
	words := regexp.MustCompile("[^ ]+").FindAllString(line, -1)
	numbers, known := kinds[words[0]]
	rest := words[1:]
	begins := words[0] == "begin"
	if !known || len(rest) < numbers || !begins && len(rest) > numbers || begins && (len(rest) < 6 || len(rest) > 13) {
		return nil
	}
	var n [5]int
	for i := range numbers {
		if !regexp.MustCompile("^-?[0-9]{1,5}$").MatchString(rest[i]) {
			return nil
		}
		n[i], _ = strconv.Atoi(rest[i])
	}
	o := &world.Op{Env: n[0], What: world.Raw}
	switch words[0] {
	case "begin", "raw":
		o.What, o.Version, o.Quota = world.Begin, n[1], [3]int{n[2], n[3], n[4]}
	case "end":
		o.What = world.End
	case "turn":
		*o = world.Op{What: world.Turn, N: n[0], PID: n[1]}
	case "ask":
		o.What, o.Wish = world.Ask, upgrade.Wish{Script: snap.Script, Tries: n[1], Space: n[2]}
	case "bad":
		o.What, o.Wish = world.Ask, upgrade.Wish{Tries: n[1], Space: n[2]}
	case "fail":
		o.What, o.N = world.Fail, n[1]
	case "bind":
		o.Call = kern.Call{What: kern.Bind, A: n[1]}
	case "send":
		o.Call = kern.Call{What: kern.Send, A: n[1], B: n[2]}
	case "get":
		o.Call = kern.Call{What: kern.Get, H: caps.Handle{Slot: n[1], Gen: n[2]}, A: n[3]}
	case "free":
		o.Call = kern.Call{What: kern.Free, H: caps.Handle{Slot: n[1], Gen: n[2]}}
	}
	for _, word := range rest[numbers:] {
		s, bad := asm.Read(strings.ReplaceAll(strings.ReplaceAll(word, "/", "\n"), "_", " "))
		if bad != 0 {
			return nil
		}
		o.Programs = append(o.Programs, s)
	}
	return o
}

// plainParse is what Parse is to answer.
func plainParse(text string) ([]world.Op, int) {
	var l []world.Op
	for i, line := range strings.Split(text, "\n") {
		line = regexp.MustCompile("#.*").ReplaceAllString(line, "")
		if strings.Trim(line, " ") == "" {
			continue
		}
		o := plainLine(line)
		if o == nil {
			return nil, i + 1
		}
		l = append(l, *o)
	}
	return l, 0
}

func TestManyLines(t *testing.T) { // 36.1: held against the plain words, over many texts with some bytes changed
	right, wrong := 0, 0
	for seed := range uint64(4000) {
		d := throw(seed)
		programs := []string{"call_14", "set_r1_7/a:/jump_a", "/", "stop/stop"}
		var lines []string
		for range d.IntN(9) {
			lines = append(lines, d.line(programs))
		}
		b := []byte(strings.Join(lines, "\n"))
		for range d.IntN(4) {
			if len(b) > 0 {
				b[d.IntN(len(b))] = " \n#-0159_/x\t\xc3"[d.IntN(13)]
			}
		}
		l, bad := Parse(string(b))
		want, wantBad := plainParse(string(b))
		if bad != wantBad || len(l) != len(want) || len(l) > 0 && !reflect.DeepEqual(l, want) {
			t.Fatalf("Parse(%q): %v, %d, not %v, %d", b, l, bad, want, wantBad)
		}
		if bad > 0 {
			wrong++
		} else {
			right++
		}
	}
	if right < 1000 || wrong < 1000 {
		t.Errorf("%d right, %d wrong", right, wrong)
	}
}

func FuzzParse(f *testing.F) { // 36.1, and that it ends, whatever it is given
	f.Add("begin 1 1 6 6 2 call_14/call_15 # x\nturn 0 1")
	f.Fuzz(func(t *testing.T, text string) {
		l, bad := Parse(text)
		want, wantBad := plainParse(text)
		if bad != wantBad || len(l) != len(want) || len(l) > 0 && !reflect.DeepEqual(l, want) {
			t.Fatalf("Parse(%q): %v, %d, not %v, %d", text, l, bad, want, wantBad)
		}
	})
}
