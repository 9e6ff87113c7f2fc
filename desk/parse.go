package desk

import (
	"strconv"
	"strings"

	"imago/asm"
	"imago/caps"
	"imago/kern"
	"imago/snap"
	"imago/upgrade"
	"imago/world"
)

const (
	mostDigits   = 5
	mostPrograms = 8
)

// kind is a kind of lines: how many numbers they have, what operation these make, and whether programs follow.
type kind struct {
	numbers  int
	op       func(n []int) world.Op
	programs bool
}

// kindOf is the kind of lines that begin with a word, if there is one.
func kindOf(word string) (kind, bool) {
	switch word {
	case "begin":
		return kind{5, begin, true}, true
	case "raw":
		return kind{5, begin, false}, true
	case "end":
		return kind{1, end, false}, true
	case "turn":
		return kind{2, turn, false}, true
	case "ask":
		return kind{3, ask(snap.Script), false}, true
	case "bad":
		return kind{3, ask(""), false}, true
	case "fail":
		return kind{2, fail, false}, true
	case "bind":
		return kind{2, raw(func(n []int) kern.Call { return kern.Call{What: kern.Bind, A: n[0]} }), false}, true
	case "send":
		return kind{3, raw(func(n []int) kern.Call { return kern.Call{What: kern.Send, A: n[0], B: n[1]} }), false}, true
	case "get":
		return kind{4, raw(func(n []int) kern.Call { return kern.Call{What: kern.Get, H: handle(n), A: n[2]} }), false}, true
	case "free":
		return kind{3, raw(func(n []int) kern.Call { return kern.Call{What: kern.Free, H: handle(n)} }), false}, true
	}
	return kind{}, false
}

func begin(n []int) world.Op {
	return world.Op{What: world.Begin, Env: n[0], Version: n[1], Quota: [3]int(n[2:])}
}

func end(n []int) world.Op { return world.Op{What: world.End, Env: n[0]} }

func turn(n []int) world.Op { return world.Op{What: world.Turn, N: n[0], PID: n[1]} }

func fail(n []int) world.Op { return world.Op{What: world.Fail, Env: n[0], N: n[1]} }

// ask asks for a change by a script.
func ask(script string) func(n []int) world.Op {
	return func(n []int) world.Op {
		return world.Op{What: world.Ask, Env: n[0], Wish: upgrade.Wish{Script: script, Tries: n[1], Space: n[2]}}
	}
}

// raw is a call of an environment, of the numbers behind its own.
func raw(call func(n []int) kern.Call) func(n []int) world.Op {
	return func(n []int) world.Op { return world.Op{What: world.Raw, Env: n[0], Call: call(n[1:])} }
}

func handle(n []int) caps.Handle { return caps.Handle{Slot: n[0], Gen: n[1]} }

// Parse are the operations of lines.
func Parse(text string) ([]world.Op, int) {
	var l []world.Op
	at := 0
	for line := range strings.SplitSeq(text, "\n") {
		at++
		words := split(line)
		if len(words) == 0 {
			continue
		}
		o, ok := read(words[0], words[1:])
		if !ok {
			return nil, at
		}
		l = append(l, o)
	}
	return l, 0
}

// split are a line's words.
func split(line string) []string {
	line, _, _ = strings.Cut(line, "#")
	return strings.FieldsFunc(line, func(r rune) bool { return r == ' ' })
}

// read is the operation of a line that begins with a word, and whether it is right.
func read(word string, rest []string) (world.Op, bool) {
	k, there := kindOf(word)
	if !there || len(rest) < k.numbers {
		return world.Op{}, false
	}
	n, ok := each(rest[:k.numbers], number)
	if !ok {
		return world.Op{}, false
	}
	o := k.op(n)
	rest = rest[k.numbers:]
	if !k.programs {
		return o, len(rest) == 0
	}
	o.Programs, ok = each(rest, program)
	return o, ok && len(rest) >= 1 && len(rest) <= mostPrograms
}

// each are what all words tell, and whether all of them are right.
func each[T any](words []string, told func(word string) (T, bool)) ([]T, bool) {
	var l []T
	for _, word := range words {
		x, ok := told(word)
		if !ok {
			return nil, false
		}
		l = append(l, x)
	}
	return l, true
}

// number is the number that a word tells, if it does.
func number(word string) (int, bool) {
	digits := strings.TrimPrefix(word, "-")
	isNone := func(r rune) bool { return r < '0' || r > '9' }
	if digits == "" || len(digits) > mostDigits || strings.ContainsFunc(digits, isNone) {
		return 0, false
	}
	n, _ := strconv.Atoi(word)
	return n, true
}

// program is the code of a program that a word tells, if it does.
func program(word string) (string, bool) {
	code, bad := asm.Read(strings.NewReplacer("/", "\n", "_", " ").Replace(word))
	return code, bad == 0
}
