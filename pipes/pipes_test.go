package pipes

import (
	"math"
	"slices"
	"strings"
	"testing"

	"imago/api"
)

// far are numbers that are no pipe.
var far = []int{math.MinInt, -1, 3, 4, 1 << 32, math.MaxInt}

func is(t *testing.T, e, want api.Errno) {
	t.Helper()
	if e != want {
		t.Errorf("%v, not %v", e, want)
	}
}

func opens(t *testing.T, p *Pipes, want int) {
	t.Helper()
	if id, e := p.Open(); id != want || e != api.OK {
		t.Fatalf("Open: %d, %v, not %d", id, e, want)
	}
}

func closes(t *testing.T, p *Pipes, id int) {
	t.Helper()
	is(t, p.Close(id), api.OK)
}

func writes(t *testing.T, p *Pipes, id int, s string) {
	t.Helper()
	if e := p.Write(id, s); e != api.OK {
		t.Fatalf("Write(%d, %q): %v", id, s, e)
	}
}

func reads(t *testing.T, p *Pipes, id, n int, want string) {
	t.Helper()
	if s, e := p.Read(id, n); s != want || e != api.OK {
		t.Fatalf("Read(%d, %d): %q, %v, not %q", id, n, s, e, want)
	}
}

// has wants just these pipes.
func has(t *testing.T, p *Pipes, want ...Info) {
	t.Helper()
	if l := p.List(); !slices.Equal(l, want) {
		t.Errorf("List: %v, not %v", l, want)
	}
	for id := range api.MaxPipes {
		at := slices.IndexFunc(want, func(i Info) bool { return i.ID == id })
		n, e := p.Waits(id)
		if at < 0 && (n != 0 || e != api.ErrNone) {
			t.Errorf("Waits(%d): %d, %v", id, n, e)
		}
		if at >= 0 && (n != len(want[at].Data) || e != api.OK) {
			t.Errorf("Waits(%d): %d, %v, not %d", id, n, e, len(want[at].Data))
		}
	}
}

// refuses wants that all calls of a pipe tell this error.
func refuses(t *testing.T, p *Pipes, id int, want api.Errno) {
	t.Helper()
	is(t, p.Close(id), want)
	for _, s := range []string{"", "a", strings.Repeat("a", 16), strings.Repeat("a", 17)} {
		is(t, p.Write(id, s), want)
	}
	for _, n := range []int{0, 1, 16, math.MaxInt} {
		if s, e := p.Read(id, n); s != "" || e != want {
			t.Errorf("Read(%d, %d): %q, %v, not %v", id, n, s, e, want)
		}
	}
	for _, n := range []int{math.MinInt, -1} {
		if s, e := p.Read(id, n); s != "" || e != api.ErrArg {
			t.Errorf("Read(%d, %d): %q, %v", id, n, s, e)
		}
	}
	if n, e := p.Waits(id); n != 0 || e != want {
		t.Errorf("Waits(%d): %d, %v, not %v", id, n, e, want)
	}
}

// text is so many bytes, all unlike.
func text(n int) string {
	b := make([]byte, n)
	for i := range b {
		b[i] = byte(250 + i)
	}
	return string(b)
}

func TestNew(t *testing.T) { // 22.1: none is there; pipes of two calls are apart
	p, q := New(), New()
	if p == nil || q == nil {
		t.Fatal("New: nothing")
	}
	has(t, p)
	for id := range api.MaxPipes {
		refuses(t, p, id, api.ErrNone)
	}
	opens(t, p, 0)
	writes(t, p, 0, "a")
	has(t, q)
	has(t, New())
	has(t, p, Info{0, "a"})
}

func TestExample(t *testing.T) { // the chapter's example
	p := New()
	opens(t, p, 0)
	writes(t, p, 0, "abc")
	reads(t, p, 0, 2, "ab")
	has(t, p, Info{0, "c"})
}

func TestOpen(t *testing.T) { // 22.1: the lowest number, without bytes; ErrFull
	for first := range api.MaxPipes {
		for second := range api.MaxPipes {
			p := New()
			for id := range api.MaxPipes {
				opens(t, p, id)
				writes(t, p, id, "abc"[:id+1])
			}
			for range 2 {
				if id, e := p.Open(); id != 0 || e != api.ErrFull {
					t.Errorf("Open: %d, %v", id, e)
				}
			}
			has(t, p, Info{0, "a"}, Info{1, "ab"}, Info{2, "abc"})
			closes(t, p, first)
			refuses(t, p, first, api.ErrNone)
			if first == second {
				opens(t, p, first)
				continue
			}
			closes(t, p, second)
			opens(t, p, min(first, second))
			opens(t, p, max(first, second))
			want := []Info{{0, "a"}, {1, "ab"}, {2, "abc"}}
			want[first].Data, want[second].Data = "", ""
			has(t, p, want...)
			is(t, open(p), api.ErrFull)
		}
	}
}

// open is Open's error.
func open(p *Pipes) api.Errno {
	_, e := p.Open()
	return e
}

func TestWrongNumbers(t *testing.T) { // 22.1, R4: ErrArg ahead of ErrNone and ErrFull; nothing changes
	p := New()
	for _, id := range far {
		refuses(t, p, id, api.ErrArg)
	}
	has(t, p)
	opens(t, p, 0)
	opens(t, p, 1)
	closes(t, p, 0)
	writes(t, p, 1, text(16))
	for _, id := range far {
		refuses(t, p, id, api.ErrArg)
	}
	refuses(t, p, 0, api.ErrNone)
	refuses(t, p, 2, api.ErrNone)
	for _, n := range []int{math.MinInt, -17, -1} {
		if s, e := p.Read(1, n); s != "" || e != api.ErrArg {
			t.Errorf("Read(1, %d): %q, %v", n, s, e)
		}
	}
	has(t, p, Info{1, text(16)})
}

func TestClose(t *testing.T) { // 22.1: it is not there any more, whatever it has; others stay
	p, e := Load([]Info{{0, "a"}, {1, text(16)}, {2, ""}})
	is(t, e, api.OK)
	closes(t, p, 1)
	refuses(t, p, 1, api.ErrNone)
	has(t, p, Info{0, "a"}, Info{2, ""})
	closes(t, p, 2)
	has(t, p, Info{0, "a"})
	closes(t, p, 0)
	has(t, p)
	for id := range api.MaxPipes {
		refuses(t, p, id, api.ErrNone)
	}
	opens(t, p, 0)
	reads(t, p, 0, 16, "")
}

func TestWrite(t *testing.T) { // 22.1, R4: as long as there is room for all of it
	for n := range api.MaxPipe + 1 {
		for m := range api.MaxPipe + 5 {
			p, e := Load([]Info{{0, "other"}, {2, text(n)}})
			is(t, e, api.OK)
			s, want, data := strings.Repeat("\x00", m), api.OK, text(n)+strings.Repeat("\x00", m)
			if n+m > 16 {
				want, data = api.ErrFull, text(n)
			}
			is(t, p.Write(2, s), want)
			has(t, p, Info{0, "other"}, Info{2, data})
			reads(t, p, 2, 100, data)
			writes(t, p, 2, text(16))
			has(t, p, Info{0, "other"}, Info{2, text(16)})
		}
	}
}

func TestWriteOfMuch(t *testing.T) { // 22.1, and the bound
	p := New()
	opens(t, p, 0)
	is(t, p.Write(0, strings.Repeat("a", 1<<24)), api.ErrFull)
	has(t, p, Info{0, ""})
}

func TestRead(t *testing.T) { // 22.1: n at most, which are gone then
	for n := range api.MaxPipe + 1 {
		for _, m := range []int{0, 1, 2, 3, 7, 8, 15, 16, 17, 255, 256, 1 << 32, math.MaxInt} {
			p, e := Load([]Info{{1, text(n)}, {0, "other"}})
			is(t, e, api.OK)
			k := min(n, m)
			reads(t, p, 1, m, text(n)[:k])
			has(t, p, Info{0, "other"}, Info{1, text(n)[k:]})
			rest := text(n)[k:]
			if len(rest) < 16 {
				writes(t, p, 1, "+")
				rest += "+"
			}
			reads(t, p, 1, 16, rest)
			reads(t, p, 1, 16, "")
			has(t, p, Info{0, "other"}, Info{1, ""})
		}
	}
}

func TestPieces(t *testing.T) { // 22.3: all pieces that are written, by all pieces that are read
	all := text(48)
	for in := 1; in <= api.MaxPipe; in++ {
		for out := 1; out <= api.MaxPipe+1; out++ {
			p := New()
			opens(t, p, 0)
			opens(t, p, 1)
			writes(t, p, 0, "apart")
			left, got := all, ""
			for len(got) < len(all) {
				for len(left) > 0 && p.Write(1, left[:min(in, len(left))]) == api.OK {
					left = left[min(in, len(left)):]
				}
				s, e := p.Read(1, out)
				if e != api.OK || s == "" || len(s) > out {
					t.Fatalf("Read: %q, %v", s, e)
				}
				got += s
			}
			if got != all {
				t.Errorf("%d by %d: %q", in, out, got)
			}
			has(t, p, Info{0, "apart"}, Info{1, ""})
		}
	}
}

func TestBytes(t *testing.T) { // R5: bytes, whichever
	p := New()
	opens(t, p, 0)
	for b := range 256 {
		s := string([]byte{byte(b), 0, 255, byte(b)})
		writes(t, p, 0, s)
		has(t, p, Info{0, s})
		reads(t, p, 0, 1, s[:1])
		reads(t, p, 0, 9, s[1:])
	}
}

func TestLoad(t *testing.T) { // 22.2: these pipes, in whichever order they are told
	for _, c := range []struct{ l, want []Info }{
		{nil, nil},
		{[]Info{}, nil},
		{[]Info{{1, ""}}, []Info{{1, ""}}},
		{[]Info{{2, "c"}, {0, text(16)}}, []Info{{0, text(16)}, {2, "c"}}},
		{[]Info{{1, "b"}, {2, text(15)}, {0, "\x00"}}, []Info{{0, "\x00"}, {1, "b"}, {2, text(15)}}},
	} {
		p, e := Load(c.l)
		if e != api.OK || p == nil {
			t.Fatalf("Load(%v): %v, %v", c.l, p, e)
		}
		has(t, p, c.want...)
		for _, i := range c.want {
			writes(t, p, i.ID, text(16-len(i.Data)))
			is(t, p.Write(i.ID, "x"), api.ErrFull)
			reads(t, p, i.ID, 16, i.Data+text(16-len(i.Data)))
		}
		for range 3 - len(c.want) {
			is(t, open(p), api.OK)
		}
		is(t, open(p), api.ErrFull)
	}
}

func TestLoadWrong(t *testing.T) { // 22.2, R4
	wrong := [][]Info{
		{{0, text(17)}},
		{{0, strings.Repeat("a", 1<<20)}},
		{{0, ""}, {0, ""}},
		{{1, "a"}, {0, "b"}, {1, "a"}},
		{{2, ""}, {1, ""}, {0, text(17)}},
		{{0, ""}, {1, ""}, {2, ""}, {0, ""}},
		slices.Repeat([]Info{{0, "a"}, {1, "a"}, {2, "a"}}, 100000),
	}
	for _, id := range far {
		wrong = append(wrong, []Info{{id, ""}}, []Info{{0, "a"}, {id, "b"}}, []Info{{id, "b"}, {0, "a"}})
	}
	for i, l := range wrong {
		if p, e := Load(l); p != nil || e != api.ErrForm {
			t.Errorf("Load %d: %v, %v", i, p, e)
		}
	}
}

func TestLoadOfList(t *testing.T) { // 22.4: the same pipes, and apart
	p := New()
	for id := range api.MaxPipes {
		opens(t, p, id)
	}
	writes(t, p, 0, text(16))
	reads(t, p, 0, 5, text(5))
	writes(t, p, 2, "c")
	closes(t, p, 1)
	q, e := Load(p.List())
	is(t, e, api.OK)
	want := []Info{{0, text(16)[5:]}, {2, "c"}}
	has(t, q, want...)
	reads(t, q, 0, 16, text(16)[5:])
	writes(t, q, 2, "d")
	opens(t, q, 1)
	has(t, p, want...)
	writes(t, p, 0, "more")
	has(t, q, Info{0, ""}, Info{1, ""}, Info{2, "cd"})
}

func TestMemory(t *testing.T) { // R3: what is handed in is not changed and not kept; what is answered is its caller's; spare room too
	room := []Info{{2, "c"}, {0, "a"}, {1, "room"}, {7, "room"}}
	l := room[:2]
	p, e := Load(l)
	is(t, e, api.OK)
	if want := []Info{{2, "c"}, {0, "a"}, {1, "room"}, {7, "room"}}; !slices.Equal(room, want) {
		t.Errorf("Load changed %v", room)
	}
	l[0], l[1] = Info{1, "x"}, Info{1, "y"}
	has(t, p, Info{0, "a"}, Info{2, "c"})
	told := p.List()
	other := p.List()
	for i := range told[:cap(told)] {
		told[:cap(told)][i] = Info{1, "z"}
	}
	has(t, p, Info{0, "a"}, Info{2, "c"})
	if !slices.Equal(other, []Info{{0, "a"}, {2, "c"}}) {
		t.Errorf("List: %v", other)
	}
	opens(t, p, 1)
	writes(t, p, 0, "b")
	if !slices.Equal(other, []Info{{0, "a"}, {2, "c"}}) {
		t.Errorf("List: %v", other)
	}
	s, _ := p.Read(0, 2)
	writes(t, p, 0, "xyz")
	if s != "ab" {
		t.Errorf("Read: %q", s)
	}
}

func TestNilPipes(t *testing.T) { // Open ErrState, others ErrNone (ErrArg first); R4, R6
	var p *Pipes
	for range 2 {
		if id, e := p.Open(); id != 0 || e != api.ErrState {
			t.Errorf("Open: %d, %v", id, e)
		}
		for id := range api.MaxPipes {
			refuses(t, p, id, api.ErrNone)
		}
		for _, id := range far {
			refuses(t, p, id, api.ErrArg)
		}
		has(t, p)
	}
}

func TestZeroPipes(t *testing.T) { // such that New didn't make have none too
	var p Pipes
	has(t, &p)
	opens(t, &p, 0)
	writes(t, &p, 0, "a")
	has(t, &p, Info{0, "a"})
}
