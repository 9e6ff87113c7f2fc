package desk

import (
	"math"
	"math/rand/v2"
	"strconv"
	"strings"
	"testing"

	"imago/api"
	"imago/caps"
	"imago/code"
	"imago/kern"
	"imago/snap"
	"imago/sys"
	"imago/upgrade"
	"imago/world"
)

// far are numbers that are none of anything.
var far = []int{math.MinInt, -1 << 32, -1, 64, 255, 256, 1 << 32, 1<<32 + 1, math.MaxInt}

// parse are the operations of lines that are right.
func parse(t *testing.T, lines ...string) []world.Op {
	t.Helper()
	l, bad := Parse(strings.Join(lines, "\n"))
	if bad != 0 {
		t.Fatalf("Parse: line %d: %s", bad, strings.Split(strings.Join(lines, "\n"), "\n")[bad-1])
	}
	return l
}

// turns are so many lines of a turn.
func turns(n int, turn string) string { return strings.Repeat("turn "+turn+"\n", n) }

// holds wants that all is as it is to be.
func holds(t *testing.T, l []world.Op) {
	t.Helper()
	if n := Holds(l); n != -1 {
		t.Fatalf("Holds: %d: %v", n, l[n])
	}
}

// traces wants that an environment's trace ends so; of its events that are Ran nothing is told.
func traces(t *testing.T, l []world.Op, env int, want ...sys.Event) {
	t.Helper()
	holds(t, l)
	var told []sys.Event
	for _, e := range Trace(l, env) {
		if e.Kind != sys.Ran {
			told = append(told, e)
		}
	}
	if len(told) != len(want) {
		t.Fatalf("Trace: %v, not %v", told, want)
	}
	for i, e := range told {
		if e != want[i] {
			t.Fatalf("event %d: %v, not %v", i, e, want[i])
		}
	}
}

// done is that a call of a process is answered.
func done(pid, call, result int) sys.Event {
	return sys.Event{Kind: sys.Done, PID: pid, Call: call, Result: result}
}

// exited is that a process has ended.
func exited(pid, status int) sys.Event {
	return sys.Event{Kind: sys.Exited, PID: pid, Result: status}
}

// dice throws what tests are made of; the same at each run.
type dice struct{ *rand.Rand }

func throw(seed uint64) dice { return dice{rand.New(rand.NewPCG(seed, 36))} }

// args are arguments of a call that are mostly such as may be right.
func (d dice) args(n int) []int {
	slot, addr := d.IntN(6), d.IntN(72)
	switch n {
	case 4:
		return []int{d.IntN(9) / 2}
	case 7, 8:
		return []int{slot, d.IntN(60), d.IntN(18)}
	case 5:
		return []int{d.IntN(5), d.IntN(7) / 4}
	case 11:
		return []int{slot, d.IntN(34)}
	case 12:
		return []int{d.IntN(d.IntN(9)+1) + 1}
	case 13, 17:
		return []int{d.IntN(6) * api.FrameSize, 1 + 2*d.IntN(2)}
	case 15:
		return []int{slot, d.IntN(7)}
	case 16:
		return []int{slot, (d.IntN(40) - 20) & math.MaxUint16}
	}
	return []int{slot, addr, d.IntN(18)}
}

// program is the text of one that does calls, and reads and writes memory between them, round and round, as a line has it.
func (d dice) program() string {
	calls := []int{2, 2, 2, 3, 3, 4, 5, 5, 5, 5, 6, 7, 7, 7, 8, 8, 8, 9, 9, 9, 10, 10, 11, 11, 12, 12, 12, 14, 15, 16, 17, 18}
	rare := []int{1, 13, 255}
	all, size := []string{"again:"}, 0
	for size < 230 {
		words, last := []int{d.IntN(64), d.IntN(64)}, []string{"store_r1_r2", "storew_r1_r2", "load_r3_r1", "loadw_r3_r1", "mul_r1_r2", "sub_r1_r2"}[d.IntN(6)]
		if d.IntN(4) > 0 {
			n := calls[d.IntN(len(calls))]
			if d.IntN(25) == 0 {
				n = rare[d.IntN(len(rare))]
			}
			words, last = d.args(n), "call_"+strconv.Itoa(n)
		}
		for i, n := range words {
			all = append(all, "set_r"+strconv.Itoa(i+1)+"_"+strconv.Itoa(n))
		}
		all = append(all, last)
		size += len(words)*code.Size(code.Set) + code.Size(code.Call)
	}
	return strings.Join(append(all, "jump_again"), "/")
}

// programs are four of these.
func (d dice) programs() []string {
	var l []string
	for range 4 {
		l = append(l, d.program())
	}
	return l
}

// n is a number of a line: mostly from 0 to most.
func (d dice) n(most int) string {
	if d.IntN(60) == 0 {
		return strconv.Itoa(far[d.IntN(6)] % 100000)
	}
	return strconv.Itoa(d.IntN(most + 1))
}

// pid is a process's number: mostly one of the first ones.
func (d dice) pid() int { return 1 + d.IntN(1+d.IntN(5)) }

// line is any line that is right.
func (d dice) line(programs []string) string {
	words := []string{"turn", d.n(3), strconv.Itoa(d.pid())}
	if d.IntN(20) == 0 {
		words = []string{"turn", d.n(99), d.n(7)}
	}
	env := d.n(3)
	switch x := d.IntN(400); {
	case x < 5:
		words = []string{"begin", env, d.n(2), d.n(20), d.n(12), d.n(4)}
		words = append(words, programs[d.IntN(len(programs)):]...)
	case x < 7:
		words = []string{"raw", env, d.n(2), d.n(12), d.n(20), d.n(4)}
	case x == 7:
		words = []string{"end", env}
	case x < 14:
		words = []string{"ask", env, d.n(5), strconv.Itoa(12000 >> d.IntN(6))}
	case x < 16:
		words = []string{"bad", env, d.n(5), strconv.Itoa(12000 >> d.IntN(6))}
	case x < 20:
		words = []string{"fail", env, d.n(6)}
	case x < 28:
		words = []string{"bind", env, d.n(3)}
	case x < 32:
		words = []string{"send", env, d.n(3), d.n(400)}
	case x < 36:
		words = []string{"get", env, d.n(30), d.n(2), d.n(15)}
	case x < 40:
		words = []string{"free", env, d.n(30), d.n(2)}
	}
	return strings.Join(words, " ")
}

// script is any script: two environments that have programs begin, and then comes what comes.
func (d dice) script(n int) string {
	l := []string{
		"begin 1 1 " + strconv.Itoa(d.IntN(9)) + " " + strconv.Itoa(d.IntN(9)) + " 2 " + strings.Join(d.programs(), " "),
		"begin 3 1 " + strconv.Itoa(d.IntN(9)) + " " + strconv.Itoa(d.IntN(9)) + " 1 " + strings.Join(d.programs(), " "),
	}
	if d.IntN(2) == 0 {
		l = append(l, "raw 2 1 6 6 2")
	}
	programs := d.programs()
	for range n {
		l = append(l, d.line(programs))
	}
	return strings.Join(l, "\n")
}

// call is any call of a kernel.
func (d dice) call() kern.Call {
	h := func() caps.Handle { return caps.Handle{Slot: d.IntN(24), Gen: 1 + d.IntN(2)} }
	c := kern.Call{What: d.IntN(16), A: d.IntN(5), B: 1 + d.IntN(3), H: h(), H2: h(), S: "abcdefghijklmnop"}
	if c.What == kern.Write {
		c.S = c.S[:8]
	}
	if d.IntN(2) == 0 {
		c.What = kern.Bind
	}
	return c
}

// op is any operation, of those that no line tells, too.
func (d dice) op(programs []string) world.Op {
	l, _ := Parse(d.line(programs))
	o := l[0]
	switch {
	case o.What == world.Raw:
		o.Call = d.call()
	case o.What == world.Ask && d.IntN(4) > 0:
		scripts := []string{"drop files", strings.Replace(snap.Script, "prot i8 3", "prot i8 1", 1), snap.Script + "; so"}
		o.Wish = upgrade.Wish{Script: scripts[d.IntN(len(scripts))], Tries: 1 + d.IntN(5), Space: math.MaxInt}
	case d.IntN(100) == 0:
		o.What = far[d.IntN(len(far))]
	case d.IntN(100) == 0:
		o.Env = far[d.IntN(len(far))]
	}
	return o
}
