package ipc

import (
	"math"
	"slices"
	"testing"

	"imago/api"
)

// far are numbers that are no environment.
var far = []int{math.MinInt, -1, 0, 4, math.MaxInt}

func is(t *testing.T, e, want api.Errno) {
	t.Helper()
	if e != want {
		t.Errorf("%v, not %v", e, want)
	}
}

// send sends from one to another, word by word.
func send(t *testing.T, p *Post, from, to int, words ...int) {
	t.Helper()
	for _, w := range words {
		if e := p.Send(from, to, w); e != api.OK {
			t.Fatalf("Send(%d, %d, %d): %v", from, to, w, e)
		}
	}
}

// receive wants these messages of a queue, and then no more.
func receive(t *testing.T, p *Post, env int, want ...Message) {
	t.Helper()
	for i, m := range want {
		if p.Waits(env) != len(want)-i {
			t.Errorf("Waits(%d): %d, not %d", env, p.Waits(env), len(want)-i)
		}
		if got, e := p.Receive(env); got != m || e != api.OK {
			t.Errorf("Receive(%d): %v, %v, not %v", env, got, e, m)
		}
	}
	empty(t, p, env)
}

// empty wants that nothing waits for an environment.
func empty(t *testing.T, p *Post, env int) {
	t.Helper()
	if p.Waits(env) != 0 {
		t.Errorf("Waits(%d): %d", env, p.Waits(env))
	}
	if m, e := p.Receive(env); m != (Message{}) || e != api.ErrNone {
		t.Errorf("Receive(%d): %v, %v", env, m, e)
	}
}

// waits wants how many wait for each environment.
func waits(t *testing.T, p *Post, want ...int) {
	t.Helper()
	for i, n := range want {
		if p.Waits(i+1) != n {
			t.Errorf("Waits(%d): %d, not %d", i+1, p.Waits(i+1), n)
		}
	}
}

func cleared(t *testing.T, p *Post, env, want int) {
	t.Helper()
	if n := p.Clear(env); n != want {
		t.Errorf("Clear(%d): %d, not %d", env, n, want)
	}
}

func TestNew(t *testing.T) { // 12.1, and the constant
	if Most != 4 {
		t.Errorf("Most: %d", Most)
	}
	p, q := New(), New()
	if p == nil || q == nil {
		t.Fatal("New: nothing")
	}
	for env := 1; env <= api.MaxEnvs; env++ {
		empty(t, p, env)
		cleared(t, p, env, 0)
	}
	send(t, p, 1, 2, 7)
	empty(t, q, 2)
	empty(t, New(), 2)
}

func TestExample(t *testing.T) { // the chapter's example
	p := New()
	send(t, p, 1, 2, 7, 8)
	receive(t, p, 2, Message{1, 7}, Message{1, 8})
}

func TestSendEach(t *testing.T) { // 12.1: from each to each, itself too, and words at the edges
	for from := 1; from <= api.MaxEnvs; from++ {
		for to := 1; to <= api.MaxEnvs; to++ {
			for _, word := range []int{0, 1, 255, 256, 32767, 32768, 65534, 65535} {
				p := New()
				send(t, p, from, to, word)
				for env := 1; env <= api.MaxEnvs; env++ {
					if env != to {
						empty(t, p, env)
					}
				}
				receive(t, p, to, Message{From: from, Word: uint16(word)})
			}
		}
	}
}

// tries makes all calls of Send that are wrong, with the error that each one wants ahead of all else.
func tries(t *testing.T, p *Post) {
	t.Helper()
	for _, n := range far {
		for other := 1; other <= api.MaxEnvs; other++ {
			is(t, p.Send(n, other, 5), api.ErrArg)
			is(t, p.Send(other, n, 5), api.ErrArg)
		}
		is(t, p.Send(n, n, 5), api.ErrArg)
	}
	for _, word := range []int{math.MinInt, -65536, -1, 65536, 65537, 1 << 32, math.MaxInt} {
		is(t, p.Send(1, 2, word), api.ErrArg)
		is(t, p.Send(2, 1, word), api.ErrArg)
		is(t, p.Send(0, 4, word), api.ErrArg)
	}
}

func TestSendWrong(t *testing.T) { // 12.1, R4: nothing stands in a queue behind an error
	p := New()
	tries(t, p)
	for env := 1; env <= api.MaxEnvs; env++ {
		empty(t, p, env)
	}
	send(t, p, 3, 2, 1)
	tries(t, p)
	waits(t, p, 0, 1, 0)
	receive(t, p, 2, Message{3, 1})
}

func TestFull(t *testing.T) { // 12.1: Most in one queue, whoever sent them; ErrArg ahead of ErrFull; others have room
	for to := 1; to <= api.MaxEnvs; to++ {
		p := New()
		for i := range Most {
			send(t, p, i%3+1, to, i)
		}
		for from := 1; from <= api.MaxEnvs; from++ {
			is(t, p.Send(from, to, 9), api.ErrFull)
		}
		tries(t, p)
		if p.Waits(to) != Most {
			t.Errorf("Waits: %d", p.Waits(to))
		}
		other := to%3 + 1
		send(t, p, to, other, 1, 2, 3, 4)
		is(t, p.Send(to, other, 5), api.ErrFull)
		if m, e := p.Receive(to); m != (Message{1, 0}) || e != api.OK {
			t.Errorf("Receive: %v, %v", m, e)
		}
		is(t, p.Send(to, other, 5), api.ErrFull)
		send(t, p, 3, to, 65535)
		is(t, p.Send(3, to, 9), api.ErrFull)
		receive(t, p, to, Message{2, 1}, Message{3, 2}, Message{1, 3}, Message{3, 65535})
		receive(t, p, other, Message{to, 1}, Message{to, 2}, Message{to, 3}, Message{to, 4})
	}
}

func TestReceiveWrong(t *testing.T) { // 12.1: ErrArg, then ErrNone; nothing goes
	p := New()
	send(t, p, 1, 2, 5, 6)
	for _, env := range far {
		if m, e := p.Receive(env); m != (Message{}) || e != api.ErrArg {
			t.Errorf("Receive(%d): %v, %v", env, m, e)
		}
		if p.Waits(env) != 0 {
			t.Errorf("Waits(%d): %d", env, p.Waits(env))
		}
	}
	empty(t, p, 1)
	empty(t, p, 3)
	receive(t, p, 2, Message{1, 5}, Message{1, 6})
}

func TestOneWayAndTheOther(t *testing.T) { // 12.2: queues do not mix
	p := New()
	send(t, p, 1, 2, 10)
	send(t, p, 2, 1, 20)
	send(t, p, 1, 1, 11)
	send(t, p, 3, 2, 30)
	send(t, p, 2, 3, 21)
	receive(t, p, 3, Message{2, 21})
	receive(t, p, 1, Message{2, 20}, Message{1, 11})
	receive(t, p, 2, Message{1, 10}, Message{3, 30})
}

// mixed is a post with messages in all queues.
func mixed(t *testing.T) *Post {
	t.Helper()
	p := New()
	send(t, p, 1, 1, 11)
	send(t, p, 2, 1, 21)
	send(t, p, 3, 1, 31)
	send(t, p, 1, 2, 12)
	send(t, p, 3, 2, 32)
	send(t, p, 1, 2, 13)
	send(t, p, 2, 2, 22)
	send(t, p, 2, 3, 23)
	return p
}

func TestClear(t *testing.T) { // 12.1: its queue, and what is from it; each is counted once; the others keep their order
	for _, c := range []struct {
		env, gone int
		stay      [3][]Message
	}{
		{1, 5, [3][]Message{nil, {{3, 32}, {2, 22}}, {{2, 23}}}},
		{2, 6, [3][]Message{{{1, 11}, {3, 31}}, nil, nil}},
		{3, 3, [3][]Message{{{1, 11}, {2, 21}}, {{1, 12}, {1, 13}, {2, 22}}, nil}},
	} {
		p := mixed(t)
		cleared(t, p, c.env, c.gone)
		cleared(t, p, c.env, 0)
		for i, messages := range c.stay {
			receive(t, p, i+1, messages...)
		}
	}
}

func TestClearMakesRoom(t *testing.T) { // 12.1: Most again
	p := New()
	send(t, p, 1, 2, 1, 2)
	send(t, p, 3, 2, 3, 4)
	cleared(t, p, 1, 2)
	send(t, p, 1, 2, 5, 6)
	is(t, p.Send(1, 2, 7), api.ErrFull)
	receive(t, p, 2, Message{3, 3}, Message{3, 4}, Message{1, 5}, Message{1, 6})
}

func TestClearWrong(t *testing.T) { // 12.1: no such environment has nothing
	p := mixed(t)
	for _, env := range far {
		cleared(t, p, env, 0)
	}
	waits(t, p, 3, 4, 1)
}

func TestNilPost(t *testing.T) { // Send ErrState (ErrArg first), Receive ErrNone (ErrArg first); 0
	var p *Post
	tries(t, p)
	for from := 1; from <= api.MaxEnvs; from++ {
		for to := 1; to <= api.MaxEnvs; to++ {
			is(t, p.Send(from, to, 0), api.ErrState)
			is(t, p.Send(from, to, 65535), api.ErrState)
		}
		empty(t, p, from)
		cleared(t, p, from, 0)
	}
	for _, env := range far {
		if m, e := p.Receive(env); m != (Message{}) || e != api.ErrArg {
			t.Errorf("Receive(%d): %v, %v", env, m, e)
		}
		cleared(t, p, env, 0)
		if p.Waits(env) != 0 {
			t.Errorf("Waits(%d): %d", env, p.Waits(env))
		}
	}
}

func TestZeroPost(t *testing.T) { // one that New didn't make is empty too
	var p Post
	empty(t, &p, 1)
	send(t, &p, 1, 2, 7)
	receive(t, &p, 2, Message{1, 7})
}

func TestLongQueue(t *testing.T) { // 12.2: one queue, that is never empty, over many messages
	p := New()
	send(t, p, 1, 3, 0, 1, 2)
	for i := 3; i < 70000; i++ {
		send(t, p, i%3+1, 3, i%65536)
		from := (i-3)%3 + 1
		if i < 6 {
			from = 1
		}
		if m, e := p.Receive(3); m != (Message{from, uint16(i - 3)}) || e != api.OK {
			t.Fatalf("Receive: %v, %v, not %d", m, e, i-3)
		}
	}
	waits(t, p, 0, 0, 3)
}

// letter is a message of the plain model, and to whom it is.
type letter struct {
	to int
	m  Message
}

// step makes one call of a post and of a list of all letters in the order of their sending, and tells whether both answer the same.
func step(p *Post, letters *[]letter, next func(n int) int) bool {
	env := 1 + next(3)
	toEnv := func(l letter) bool { return l.to == env }
	switch what := next(40); {
	case what == 0:
		before := len(*letters)
		*letters = slices.DeleteFunc(*letters, func(l letter) bool { return l.to == env || l.m.From == env })
		return p.Clear(env) == before-len(*letters)
	case what < 18:
		want, e := Message{}, api.ErrNone
		if at := slices.IndexFunc(*letters, toEnv); at >= 0 {
			want, e = (*letters)[at].m, api.OK
			*letters = slices.Delete(*letters, at, at+1)
		}
		m, f := p.Receive(env)
		return m == want && e == f
	}
	from, word, n := 1+next(3), next(65536), 0
	for _, l := range *letters {
		if toEnv(l) {
			n++
		}
	}
	if n == Most {
		return p.Send(from, env, word) == api.ErrFull
	}
	*letters = append(*letters, letter{env, Message{from, uint16(word)}})
	return p.Send(from, env, word) == api.OK
}

func TestManySteps(t *testing.T) { // 12.1, 12.2, R6: held against one list of all, over many calls
	p := New()
	var letters []letter
	seed := uint32(1)
	next := func(n int) int {
		seed = seed*1664525 + 1013904223
		return int((seed >> 16) % uint32(n))
	}
	full, none := 0, 0
	for i := range 100000 {
		if !step(p, &letters, next) {
			t.Fatalf("step %d differs", i)
		}
		for env := 1; env <= api.MaxEnvs; env++ {
			n := 0
			for _, l := range letters {
				if l.to == env {
					n++
				}
			}
			if p.Waits(env) != n {
				t.Fatalf("step %d: Waits(%d): %d, not %d", i, env, p.Waits(env), n)
			}
			if n == Most {
				full++
			}
			if n == 0 {
				none++
			}
		}
	}
	if full < 1000 || none < 1000 {
		t.Errorf("too little was asked: %d, %d", full, none)
	}
}
