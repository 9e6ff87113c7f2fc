package upgrade

import (
	"math"
	"slices"
	"strings"
	"testing"

	"imago/abs"
	"imago/api"
	"imago/kern"
	"imago/rest"
	"imago/snap"
	"imago/sys"
)

// plain is a manager by the chapter's words: its system is a twin in a kernel of its own, in which no attempt is made; a change that comes true is made of it at one moment.
type plain struct {
	place          rest.Place
	twin           *sys.System
	version        int
	wish           Wish
	attempt, phase int   // attempt 0: no change is under way
	fails          []int // phases, in no order
}

// script is one that comes true, or fails in a phase.
type script struct {
	text  string
	phase int // that fails with ErrForm; 0: none does
}

// scripts are some that come true, and some that do not.
var scripts = []script{
	{snap.Script, 0},
	{snap.Script, 0},
	{"sort fds pid slot\n" + snap.Script + "; so", 0},
	{"rename procs p\n" + snap.Script + "rename p procs", 0},
	{"", Transform},
	{"drop files", Transform},
	{snap.Script + "each spans", Transform},
	{protected, Validate},
	{strings.Replace(snap.Script, "prot i8 3", "prot i8 9", 1), Validate},
}

// ask is what Ask answers.
func (p *plain) ask(w Wish) api.Errno {
	switch {
	case w.Tries < 1 || w.Tries > 5 || w.Space < 0:
		return api.ErrArg
	case p.attempt > 0 || p.version == 2:
		return api.ErrState
	}
	p.wish, p.attempt, p.phase = w, 1, 1
	return api.OK
}

// fail is what Fail answers.
func (p *plain) fail(phase int) api.Errno {
	if phase < 1 || phase > 6 {
		return api.ErrArg
	}
	p.fails = append(p.fails, phase)
	return api.OK
}

// comes is what comes of a phase.
func (p *plain) comes(phase int) api.Errno {
	if at := slices.Index(p.fails, phase); at >= 0 {
		p.fails = slices.Delete(p.fails, at, at+1)
		return api.ErrFail
	}
	b, _ := snap.Bytes(p.twin.State())
	if phase == 1 && len(b) > p.wish.Space/2 {
		return api.ErrFull
	}
	for _, s := range scripts {
		wrong := s.phase != Validate || len(p.twin.State().Areas) > 0 // of no areas it makes what is right
		if s.text == p.wish.Script && s.phase == phase && wrong {
			return api.ErrForm
		}
	}
	return api.OK
}

// slice is what Slice answers.
func (p *plain) slice(t *testing.T, pid int) (sys.Event, Report) {
	t.Helper()
	if p.attempt == 0 {
		return p.twin.Step(pid), Report{Version: p.version}
	}
	r := Report{Phase: p.phase, Attempt: p.attempt, Err: p.comes(p.phase)}
	p.phase++
	switch {
	case r.Err != api.OK && p.attempt == p.wish.Tries:
		p.attempt = 0
	case r.Err != api.OK:
		p.attempt, p.phase = p.attempt+1, 1
	case r.Phase == 6:
		now, e := rest.Whole(p.place, p.twin, p.wish.Script)
		if e != api.OK {
			t.Fatalf("Whole: %v", e)
		}
		p.attempt, p.twin, p.version = 0, now, 2
		p.place.Kernel.Change(1, 2)
	}
	r.Version = p.version
	return sys.Event{}, r
}

// wish is any wish.
func (d dice) wish(bytes int) Wish {
	w := Wish{Script: scripts[d.IntN(len(scripts))].text, Tries: 1 + d.IntN(5), Space: enough}
	switch d.IntN(12) {
	case 0:
		w.Tries = d.IntN(9) - 1
	case 1:
		w.Space = 2*bytes - d.IntN(3)
	case 2:
		w.Space = d.IntN(40) - 10
	case 3:
		w.Space = math.MaxInt
	}
	return w
}

// pair is a manager and its plain model, which have done the same.
type pair struct {
	*box
	plain plain
}

// both are a manager and its plain model.
func both(t *testing.T, version int, programs []string) *pair {
	t.Helper()
	b := start(t, version, 12, 8, programs...)
	twin := rest.Place{Kernel: machine(t, version, 12, 8), Env: 1, Programs: programs}
	s, e := sys.New(twin.Kernel, 1, version, programs)
	if e != api.OK {
		t.Fatal(e)
	}
	return &pair{b, plain{place: twin, twin: s, version: version}}
}

// same wants that the manager is as the model: its tables, its bytes, and all that is bound.
func (p *pair) same() {
	p.t.Helper()
	st, want := p.m.System().State(), p.plain.twin.State()
	if !identical(st, want) || memory(p.m.System()) != memory(p.plain.twin) || p.m.Busy() != (p.plain.attempt > 0) {
		p.t.Fatalf("%v, not %v", st, want)
	}
	if now, was := pictureOf(p.p.Kernel), pictureOf(p.plain.place.Kernel); now != was {
		p.t.Fatalf("%v, not %v", now, was)
	}
	p.just()
}

// slice does a slice, and holds it against the model's.
func (p *pair) slice(pid int) Report {
	p.t.Helper()
	old := p.m.System()
	view := abs.Of(old)
	e, r := p.m.Slice(pid)
	if x, want := p.plain.slice(p.t, pid); e != x || r != want {
		p.t.Fatalf("Slice: %v, %v, not %v, %v", e, r, x, want)
	}
	if r.Phase > 0 {
		p.same()
		if !abs.Same(view, abs.Of(p.m.System())) {
			p.t.Fatalf("%v: another view", r)
		}
	}
	return r
}

// asks asks for a change, or has a phase fail.
func (p *pair) asks(d dice) {
	p.t.Helper()
	if d.IntN(2) == 0 {
		phase := d.IntN(8)
		if e, want := p.m.Fail(phase), p.plain.fail(phase); e != want {
			p.t.Fatalf("Fail(%d): %v, not %v", phase, e, want)
		}
		return
	}
	b, _ := snap.Bytes(p.m.System().State())
	w := d.wish(len(b))
	if e, want := p.m.Ask(w), p.plain.ask(w); e != want {
		p.t.Fatalf("Ask(%v): %v, not %v", w, e, want)
	}
}

func TestMany(t *testing.T) { // 33.1 to 33.6: held against the plain words, over many systems; attempts that fail change nothing, of what comes later, too
	ends := map[Report]int{}
	for seed := range uint64(150) {
		d := throw(seed)
		version := 1 + d.IntN(10)/9
		p := both(t, version, d.programs(t))
		often := 10 + d.IntN(100)
		for i := range 700 {
			if d.IntN(often) == 0 {
				p.asks(d)
			}
			r := p.slice(1 + d.IntN(6))
			r.Attempt = min(r.Attempt, 1)
			ends[r]++
			if i%50 == 0 {
				p.same()
			}
		}
		p.same()
	}
	for _, r := range []Report{
		{0, 0, 0, 1}, {0, 0, 0, 2}, {6, 1, 0, 2},
		{1, 1, api.ErrFull, 1}, {3, 1, api.ErrForm, 1}, {4, 1, api.ErrForm, 1},
		{1, 1, api.ErrFail, 1}, {2, 1, api.ErrFail, 1}, {3, 1, api.ErrFail, 1}, {4, 1, api.ErrFail, 1}, {5, 1, api.ErrFail, 1}, {6, 1, api.ErrFail, 1},
	} {
		if ends[r] < 20 {
			t.Errorf("%v: %d times", r, ends[r])
		}
	}
	for r := range ends {
		if r.Err == api.ErrFuel || r.Err == api.ErrArg || r.Phase == 6 && (r.Err == api.OK) != (r.Version == 2) {
			t.Errorf("%v", r)
		}
	}
}

func TestManySlices(t *testing.T) { // 33.5: with a right script, enough space and no failure six slices; in any case six for each try at most
	for seed := range uint64(60) {
		d := throw(seed)
		b := start(t, 1, 12, 8, d.programs(t)...)
		for range d.IntN(300) {
			b.m.Slice(1 + d.IntN(6))
		}
		w := Wish{Script: scripts[d.IntN(len(scripts))].text, Tries: 1 + d.IntN(5), Space: d.IntN(enough)}
		for range d.IntN(12) {
			b.m.Fail(1 + d.IntN(6))
		}
		b.asks(w, api.OK)
		n := 0
		for b.m.Busy() {
			b.m.Slice(1)
			n++
		}
		if n > 6*w.Tries {
			t.Fatalf("%d slices for %d tries", n, w.Tries)
		}
		b.just()
		if b.m.System().State().Version == 2 {
			continue
		}
		b.m.fails = [7]int{}
		b.asks(right(), api.OK)
		b.changes(1)
	}
}

func TestSeveral(t *testing.T) { // P4: managers of several environments of one kernel have nothing to do with one another
	d := throw(5)
	k, _ := kern.New(40, 40, 4)
	var together, alone [3]*box
	for i := range together {
		programs := d.programs(t)
		apart, _ := kern.New(40, 40, 4)
		for _, b := range []struct {
			box    **box
			kernel *kern.Kernel
		}{{&together[i], k}, {&alone[i], apart}} {
			b.kernel.Open(i+1, 1, [3]int{9, 7, 1})
			p := rest.Place{Kernel: b.kernel, Env: i + 1, Programs: programs}
			m, e := New(p, 1)
			if e != api.OK {
				t.Fatal(e)
			}
			*b.box = &box{t, p, m}
		}
	}
	changes := 0
	for range 6000 {
		i := d.IntN(3)
		pid, x := 1+d.IntN(6), d.IntN(120)
		w, phase := d.wish(300), d.IntN(8)
		var answers [2]any
		for j, b := range []*box{together[i], alone[i]} {
			switch {
			case x < 2:
				answers[j] = b.m.Ask(w)
			case x == 2:
				answers[j] = b.m.Fail(phase)
			default:
				e, r := b.m.Slice(pid)
				answers[j] = struct {
					e sys.Event
					r Report
				}{e, r}
				if r.Phase == Commit && r.Err == api.OK && j == 0 {
					changes++
				}
			}
		}
		if answers[0] != answers[1] || !abs.Same(abs.Of(together[i].m.System()), abs.Of(alone[i].m.System())) {
			t.Fatalf("%v, not %v", answers[0], answers[1])
		}
	}
	if changes != 3 {
		t.Errorf("%d changes", changes)
	}
}
