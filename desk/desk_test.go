package desk

import (
	"slices"
	"strings"
	"testing"

	"imago/abs"
	"imago/api"
	"imago/kern"
	"imago/model"
	"imago/sys"
	"imago/upgrade"
	"imago/world"
)

// small is a script with some of all: environment 1 is changed at the second attempt, environment 2 has no programs.
func small(t *testing.T) []world.Op {
	t.Helper()
	return parse(t,
		"begin 1 1 6 6 2 set_r1_1/call_5/set_r1_2/set_r3_9/call_8/a:/call_14/store_r1_r0/jump_a",
		"raw 2 1 4 4 1",
		"bind 2 1",
		turns(8, "0 1"),
		"turn 2 1",
		"fail 1 4",
		"ask 1 2 6000",
		turns(12, "1 1"),
		"turn 1 5",
		"turn 7 1",
		"end 1",
		"turn 0 1",
	)
}

func TestRun(t *testing.T) { // 36.2: the replies of a world of 32 frames, 32 blocks and 8 slices, at its beginning
	l := small(t)
	w, _ := world.New(32, 32, 8)
	for range 2 { // R6
		replies := Run(l)
		if len(replies) != len(l) {
			t.Fatalf("%d replies, not %d", len(replies), len(l))
		}
		w, _ = world.New(32, 32, 8)
		for i, o := range l {
			if want := w.Do(o); replies[i] != want {
				t.Errorf("%d: %v, not %v", i, replies[i], want)
			}
		}
	}
	for _, l := range [][]world.Op{nil, {}} {
		if r := Run(l); len(r) != 0 {
			t.Errorf("Run: %v", r)
		}
	}
}

func TestTotals(t *testing.T) { // 36.2: so many frames, blocks and slices there are, and no more
	for line, want := range map[string]api.Errno{
		"raw 1 1 32 32 8": api.OK, "raw 1 1 33 0 0": api.ErrFull, "raw 1 1 0 33 0": api.ErrFull, "raw 1 1 0 0 9": api.ErrFull,
		"begin 1 1 32 32 8 stop": api.OK, "begin 1 1 33 0 0 stop": api.ErrFull, "begin 1 1 0 33 0 stop": api.ErrFull, "begin 1 1 0 0 9 stop": api.ErrFull,
		"begin 1 3 0 0 0 stop": api.ErrArg, "begin 0 1 0 0 0 stop": api.ErrArg, "begin 4 1 0 0 0 stop": api.ErrArg, "raw -1 1 0 0 0": api.ErrArg,
	} {
		l := parse(t, line, "raw 3 1 0 0 0", "begin 3 1 1 1 1 stop")
		holds(t, l)
		r := Run(l)
		if r[0] != (world.Reply{Err: want}) || r[1].Err != api.OK || r[2].Err != api.ErrSame {
			t.Errorf("%s: %v", line, r)
		}
	}
}

func TestTrace(t *testing.T) { // 36.2: the events of all its turns that are steps, in their order
	l := small(t)
	holds(t, l)
	var want []sys.Event
	for i, r := range Run(l) {
		if l[i].What == world.Turn && r.Env == 1 && r.Report.Phase == 0 {
			want = append(want, r.Event)
		}
	}
	got := Trace(l, 1)
	if !slices.Equal(got, want) || len(got) != 11 {
		t.Fatalf("Trace: %v, not %v", got, want)
	}
	if got[1] != done(1, 5, 2) || got[4] != done(1, 8, 9) || got[10] != (sys.Event{PID: 5}) {
		t.Errorf("Trace: %v", got)
	}
	for _, env := range append([]int{0, 2, 3, 4}, far...) { // nobody's turns, those of one without programs, and of one that is not there
		if e := Trace(l, env); len(e) != 0 {
			t.Errorf("Trace of %d: %v", env, e)
		}
	}
	if e := Trace(nil, 1); len(e) != 0 {
		t.Errorf("Trace: %v", e)
	}
}

func TestTraceIdle(t *testing.T) { // 36.2: of Kind Idle, too, of any PID; of either version
	for _, version := range []string{"1", "2"} {
		l := parse(t, "begin 3 "+version+" 4 4 1 stop", "turn 0 0", "turn 0 2", "turn 0 -7", "turn 1 1", "turn 0 1", "turn 0 1")
		want := []sys.Event{{}, {PID: 2}, {PID: -7}, exited(1, 0), {PID: 1}}
		if e := Trace(l, 3); !slices.Equal(e, want) {
			t.Errorf("Trace: %v", e)
		}
		holds(t, l)
	}
}

func TestTraceOfTwo(t *testing.T) { // 36.2: an environment's, also of several that had its number, one behind the other
	l := parse(t, "begin 1 1 4 4 1 a:/call_14/jump_a", "begin 2 2 4 4 1 call_14", turns(3, "0 1"), "turn 1 1", "end 1", turns(2, "0 1"), "begin 1 2 4 4 1 call_0", turns(2, "0 1"), "turn 1 1")
	traces(t, l, 1, done(1, 14, 1), done(1, 14, 1), done(1, 0, 65529), exited(1, 132))
	traces(t, l, 2, done(1, 14, 1), exited(1, 132))
}

func TestHolds(t *testing.T) { // 36.3: -1: there is none
	holds(t, nil)
	holds(t, []world.Op{})
	holds(t, small(t))
	holds(t, parse(t, "end 1", "turn 0 1", "ask 1 1 1", "fail 1 1", "bind 1 1", "begin 1 1 4 4 1 "+strings.Repeat("stop ", 8)))
	holds(t, []world.Op{{}, {What: -1}, {What: 7}, {What: 1, Env: 1, Version: 1, Programs: make([]string, 9)}, {What: 1, Env: 1, Version: 1, Programs: []string{strings.Repeat("\x00", 257)}}, {What: 3}})
}

// follows is a pair that has done operations, all of which hold.
func follows(t *testing.T, l []world.Op) *pair {
	t.Helper()
	p := &pair{world: fresh()}
	for i, o := range l {
		if !p.holds(o, p.world.Do(o)) {
			t.Fatalf("operation %d does not hold: %v", i, o)
		}
	}
	return p
}

// begun are a line and two steps: process 1 has a page of memory, and a file of one block.
func begun(t *testing.T) []world.Op {
	t.Helper()
	return parse(t, "begin 1 1 6 6 2 store_r0_r0/call_5/set_r1_2/set_r3_3/call_8/a:/call_14/jump_a", "begin 2 1 6 6 2 call_14", "raw 3 1 2 2 1", turns(5, "0 1"))
}

func TestDoesNotHold(t *testing.T) { // 36.3: each of what is held
	turn := world.Op{What: world.Turn, PID: 1}
	nothing := world.Op{What: world.Turn, N: 7}
	for name, spoil := range map[string]func(p *pair) (world.Op, world.Reply){
		"event": func(p *pair) (world.Op, world.Reply) {
			r := p.world.Do(turn)
			r.Event.Result++
			return turn, r
		},
		"event of another process": func(p *pair) (world.Op, world.Reply) {
			r := p.world.Do(turn)
			r.Event.PID++
			return turn, r
		},
		"step": func(p *pair) (world.Op, world.Reply) {
			r := p.world.Do(turn)
			p.world.Do(turn)
			return turn, r
		},
		"step without a turn": func(p *pair) (world.Op, world.Reply) {
			p.world.Do(turn)
			return nothing, p.world.Do(nothing)
		},
		"step of the second environment": func(p *pair) (world.Op, world.Reply) {
			p.world.Do(world.Op{What: world.Turn, N: 2, PID: 1})
			return nothing, p.world.Do(nothing)
		},
		"frame": func(p *pair) (world.Op, world.Reply) {
			p.world.Kernel().Do(1, kern.Call{What: kern.Bind, A: api.Frame})
			return nothing, p.world.Do(nothing)
		},
		"block": func(p *pair) (world.Op, world.Reply) {
			p.world.Kernel().Do(1, kern.Call{What: kern.Bind, A: api.Block})
			return nothing, p.world.Do(nothing)
		},
		"frame of the second environment": func(p *pair) (world.Op, world.Reply) {
			p.world.Kernel().Do(2, kern.Call{What: kern.Bind, A: api.Frame})
			return nothing, p.world.Do(nothing)
		},
		"frame that is lost": func(p *pair) (world.Op, world.Reply) {
			k := p.world.Kernel()
			k.Do(1, kern.Call{What: kern.Free, H: k.Root(api.Frame, k.List(1, api.Frame)[0])})
			return nothing, p.world.Do(nothing)
		},
		"another model": func(p *pair) (world.Op, world.Reply) {
			p.models[0], p.models[1] = p.models[1], p.models[0]
			return nothing, p.world.Do(nothing)
		},
		"commit that was told before": func(p *pair) (world.Op, world.Reply) {
			p.models[0].Switch()
			return turn, world.Reply{Env: 1, Report: upgrade.Report{Phase: upgrade.Commit, Attempt: 1, Version: 2}}
		},
		"limit of frames": func(p *pair) (world.Op, world.Reply) {
			return p.limited(t, model.Limits{Frames: 1, Blocks: 6, Both: 40})
		},
		"limit of both": func(p *pair) (world.Op, world.Reply) {
			return p.limited(t, model.Limits{Frames: 6, Blocks: 6, Both: 1})
		},
	} {
		p := follows(t, begun(t))
		if p.holds(spoil(p)) {
			t.Errorf("%s: it holds", name)
		}
	}
}

func TestFirst(t *testing.T) { // 36.3: the number of the first one, from 0 on
	l := parse(t, "begin 1 1 6 6 2 store_r0_r0/set_r1_16/store_r1_r1/a:/call_14/jump_a", "raw 2 1 2 2 1", turns(9, "0 1"))
	for _, x := range []struct {
		frames, want int
	}{{6, -1}, {2, -1}, {1, 3}, {0, 1}} {
		p := follows(t, l[:1])
		p.models[0], _ = model.New(1, model.Limits{Frames: x.frames, Blocks: 6, Both: 40}, l[0].Programs)
		if n := p.first(l[1:]); n != x.want {
			t.Errorf("%d frames: %d, not %d", x.frames, n, x.want)
		}
	}
	p := follows(t, l)
	p.world.Do(world.Op{What: world.Turn, PID: 1})
	if n := p.first(l[1:]); n != 0 {
		t.Errorf("first: %d", n)
	}
}

// limited is a turn of an environment whose model has other limits: its process ends where the system's does not.
func (p *pair) limited(t *testing.T, l model.Limits) (world.Op, world.Reply) {
	t.Helper()
	ops := parse(t, "end 1", "begin 1 1 6 6 2 store_r0_r0/set_r1_16/store_r1_r1", turns(3, "0 1"))
	for i, o := range ops {
		r := p.world.Do(o)
		if i == len(ops)-1 {
			return o, r
		}
		p.holds(o, r)
		if o.What == world.Begin {
			p.models[0], _ = model.New(1, l, o.Programs)
		}
	}
	return world.Op{}, world.Reply{}
}

func TestSpares(t *testing.T) { // 36.3: as many of each kind as all have are not spare
	for _, x := range []struct {
		totals [3]int
		want   bool
	}{{[3]int{32, 32, 8}, true}, {[3]int{33, 32, 8}, false}, {[3]int{31, 32, 8}, false}, {[3]int{32, 33, 8}, false}, {[3]int{32, 31, 8}, false}, {[3]int{32, 32, 9}, false}, {[3]int{32, 32, 7}, false}} {
		w, _ := world.New(x.totals[0], x.totals[1], x.totals[2])
		p := &pair{world: w}
		for _, o := range parse(t, "raw 1 1 4 4 1", "begin 2 1 4 4 2 store_r0_r0/call_5/set_r1_2/set_r3_3/call_8", "raw 3 1 4 4 1", "bind 3 1", turns(5, "1 1"), "bind 1 2") {
			if got := p.holds(o, w.Do(o)); got != x.want {
				t.Errorf("%v: %v: %v", x.totals, o, got)
			}
		}
	}
}

func TestModels(t *testing.T) { // 36.3: each environment that begins with programs has a model
	has := func(p *pair, want ...bool) {
		t.Helper()
		for i, m := range p.models {
			if (m != nil) != want[i] {
				t.Errorf("environment %d: %v", i+1, m)
			}
		}
	}
	p := follows(t, parse(t, "begin 1 1 4 4 1 stop", "raw 2 1 4 4 1", "begin 3 2 4 4 1 stop"))
	has(p, true, false, true)
	if p.models[0].Version() != 1 || p.models[2].Version() != 2 {
		t.Errorf("versions %d, %d", p.models[0].Version(), p.models[2].Version())
	}
	for _, o := range parse(t, "begin 1 1 4 4 1 call_14", "raw 1 1 4 4 1", "begin 2 1 4 4 1 stop", "end 2", "begin 2 2 4 4 9 stop") {
		if !p.holds(o, p.world.Do(o)) {
			t.Errorf("%v does not hold", o)
		}
	}
	has(p, true, false, true)
	for _, o := range parse(t, "end 1", "begin 2 1 4 4 1 stop", "end 3", "raw 3 1 4 4 1", "end 1") {
		if !p.holds(o, p.world.Do(o)) {
			t.Errorf("%v does not hold", o)
		}
	}
	has(p, false, true, false)
	if !abs.Same(p.models[1].View(), abs.Of(p.world.System(2))) {
		t.Error("View")
	}
}

func TestLimitsOfModels(t *testing.T) { // 36.3: of the quota's frames and blocks, and of 42 less its slices of both
	writes := parse(t, "begin 1 1 0 0 0 set_r1_0/call_5/set_r1_2/set_r3_8/a:/call_8/store_r4_r3/set_r5_16/add_r4_r5/jump_a")[0].Programs
	for _, x := range []struct {
		quota         [3]int
		pages, blocks int  // so many are got
		atWrite       bool // what fails is a write of the file
	}{
		{[3]int{3, 4, 35}, 3, 4, false},
		{[3]int{3, 3, 35}, 3, 3, true},
		{[3]int{3, 4, 36}, 3, 3, true},
		{[3]int{3, 3, 36}, 3, 3, true},
		{[3]int{3, 4, 37}, 2, 3, false},
		{[3]int{2, 4, 0}, 2, 3, false},
		{[3]int{0, 4, 0}, 0, 1, false},
		{[3]int{4, 0, 0}, 0, 0, true},
		{[3]int{4, 4, 41}, 0, 1, false},
		{[3]int{4, 4, 42}, 0, 0, true},
	} {
		m := modelOf(world.Op{Version: 1, Quota: x.quota, Programs: writes})
		for range 4 {
			m.Step(1)
		}
		e := sys.Event{}
		frames, blocks := 0, 0
		for e.Kind != sys.Exited && e.Result != 65533 {
			frames, blocks = m.Used()
			e = m.Step(1)
		}
		want := exited(1, 137)
		if x.atWrite {
			want = done(1, 8, 65533)
		}
		if e != want || frames != x.pages || blocks != x.blocks {
			t.Errorf("%v: %v, %d, %d", x, e, frames, blocks)
		}
	}
	if m := modelOf(world.Op{Version: 1}); m != nil {
		t.Errorf("%v", m)
	}
}
