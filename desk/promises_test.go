package desk

import (
	"reflect"
	"slices"
	"strconv"
	"strings"
	"testing"

	"imago/abs"
	"imago/api"
	"imago/kern"
	"imago/model"
	"imago/snap"
	"imago/sys"
	"imago/upgrade"
	"imago/world"
)

// counts is a program that does what both versions answer alike: it counts in its memory, and in a file, and puts out what it counts.
const counts = "set_r1_1/call_5/set_r6_48/a:/store_r6_r5/set_r1_2/set_r2_0/call_11/set_r2_48/set_r3_1/call_8/set_r1_0/call_8/set_r4_1/add_r5_r4/jump_a"

func TestMany(t *testing.T) { // 36.2 to 36.4, R6: Holds is -1, whatever is done
	told := map[string]int{}
	for seed := range uint64(80) {
		d := throw(seed)
		l := parse(t, d.script(700))
		if seed%2 == 0 {
			programs := d.programs()
			for range 500 {
				l = append(l, d.op(programs))
			}
		}
		holds(t, l)
		traced := map[int][]sys.Event{}
		for i, r := range Run(l) {
			told[strconv.Itoa(l[i].What)+" "+r.Err.Error()]++
			if l[i].What == world.Turn {
				told["phase "+strconv.Itoa(r.Report.Phase)+" "+r.Report.Err.Error()+", "+strconv.Itoa(r.Report.Version)]++
			}
			if r.Report.Phase == 0 && r.Report.Version > 0 {
				traced[r.Env] = append(traced[r.Env], r.Event)
				told["event "+strconv.Itoa(r.Event.Kind)]++
			}
		}
		for env := 1; env <= 3; env++ {
			if e := Trace(l, env); !slices.Equal(e, traced[env]) {
				t.Fatalf("Trace of %d: %v, not %v", env, e, traced[env])
			}
		}
	}
	for _, what := range []string{
		"1 error 0", "1 error 1", "1 error 5", "1 error 8", "2 error 0", "2 error 6", "3 error 0", "4 error 0", "4 error 1", "4 error 6", "4 error 7", "5 error 0", "5 error 1", "5 error 6", "6 error 0", "6 error 7", "6 error 90",
		"phase 1 error 5, 1", "phase 1 error 330, 1", "phase 3 error 4, 1", "phase 4 error 4, 1", "phase 6 error 0, 2", "phase 6 error 330, 1", "phase 0 error 0, 1", "phase 0 error 0, 2",
		"event 0", "event 1", "event 2", "event 3", "event 4",
	} {
		if told[what] < 5 {
			t.Errorf("%s: %d times", what, told[what])
		}
	}
}

// steps are the processes of an environment's steps, and how many of them were ahead of its change; below 0, if there was none.
func steps(l []world.Op, env int) ([]int, int) {
	var pids []int
	change := -1
	for i, r := range Run(l) {
		switch {
		case r.Env != env:
		case r.Report.Phase == 0:
			pids = append(pids, l[i].PID)
		case r.Report.Phase == upgrade.Commit && r.Report.Err == api.OK:
			change = len(pids)
		}
	}
	return pids, change
}

func TestOneTrace(t *testing.T) { // P1: the trace is that of a model that switches at one moment between two steps
	changes, different := 0, 0
	for seed := range uint64(100) {
		d := throw(seed)
		l := slices.DeleteFunc(parse(t, d.script(900)), func(o world.Op) bool { return o.What == world.End && o.Env == 1 })
		pids, change := steps(l, 1)
		replay := func(at int) []sys.Event {
			q := l[0].Quota
			m, e := model.New(1, model.Limits{Frames: q[0], Blocks: q[1], Both: 42 - q[2]}, l[0].Programs)
			if e != api.OK {
				t.Fatal(e)
			}
			var events []sys.Event
			for i, pid := range pids {
				if i == at {
					m.Switch()
				}
				events = append(events, m.Step(pid))
			}
			return events
		}
		trace := Trace(l, 1)
		if !slices.Equal(trace, replay(change)) {
			t.Fatalf("%d: another trace", seed)
		}
		if change >= 0 {
			changes++
		}
		if change >= 0 && !slices.Equal(trace, replay(-1)) {
			different++
		}
	}
	if changes < 30 || different < 10 {
		t.Errorf("%d changes, of which %d are told by the trace", changes, different)
	}
}

// memory is all bytes that a system's processes and files have.
func memory(s *sys.System) string {
	all := ""
	for pid := 1; pid <= api.MaxProcs; pid++ {
		all += s.Memory(pid) + "|"
	}
	for id := range api.MaxFiles {
		b, _ := s.File(id)
		all += b + "|"
	}
	return all
}

// owned is what of each kind an environment has.
func owned(w *world.World, env int) [3][]int {
	k := w.Kernel()
	return [3][]int{k.List(env, api.Frame), k.List(env, api.Block), k.List(env, api.Slice)}
}

func TestAllOrNothing(t *testing.T) { // P2, P5: behind each phase it is version 1 with all that it had, or version 2 with the same view; it ends within six slices for each try, and commits in six
	commits, fails := 0, map[api.Errno]int{}
	for seed := range uint64(150) {
		d := throw(seed)
		w := fresh()
		for _, o := range parse(t, "begin 1 1 10 8 1 "+strings.Join(d.programs(), " ")) {
			w.Do(o)
		}
		for range d.IntN(400) {
			w.Do(world.Op{What: world.Turn, PID: d.pid()})
		}
		wish := upgrade.Wish{Script: snap.Script, Tries: 1 + d.IntN(5), Space: 12000}
		failing := d.IntN(3)
		for range failing {
			w.Do(world.Op{What: world.Fail, Env: 1, N: 1 + d.IntN(6)})
		}
		wrong := d.IntN(5)
		switch wrong {
		case 0:
			wish.Script = ""
		case 1:
			wish.Script = strings.Replace(snap.Script, "prot i8 3", "prot i8 1", 1)
		case 2:
			wish.Space = 40
		}
		old := w.System(1)
		state, bytes, has, view := old.State(), memory(old), owned(w, 1), abs.Of(old)
		w.Do(world.Op{What: world.Ask, Env: 1, Wish: wish})
		slicesOf, last := 0, upgrade.Report{}
		for w.Busy(1) {
			last = w.Do(world.Op{What: world.Turn, PID: 1}).Report
			slicesOf++
			now := w.System(1)
			if memory(now) != bytes || !reflect.DeepEqual(owned(w, 1), has) || !abs.Same(abs.Of(now), view) {
				t.Fatalf("behind %v all is not as it was", last)
			}
			if v, _ := w.Kernel().Version(1); v != last.Version || v != now.State().Version {
				t.Fatalf("behind %v: version %d", last, v)
			}
			if last.Version == 1 && (now != old || !reflect.DeepEqual(now.State(), state)) {
				t.Fatalf("behind %v: %v, not %v", last, now.State(), state)
			}
			if last.Err != api.OK {
				fails[last.Err]++
			}
		}
		committed := last.Version == 2
		if slicesOf > 6*wish.Tries || committed != (last.Err == api.OK) || wrong > 2 && failing == 0 && (slicesOf != 6 || !committed) {
			t.Fatalf("%d slices of %d tries: %v", slicesOf, wish.Tries, last)
		}
		if committed {
			commits++
		}
	}
	if commits < 20 || fails[api.ErrForm] < 20 || fails[api.ErrFull] < 20 || fails[api.ErrFail] < 20 {
		t.Errorf("%d commits, %v", commits, fails)
	}
}

func TestNothingLeaks(t *testing.T) { // P3: an environment has just the frames and blocks that its system's tables name; behind its end nothing is bound
	for seed := range uint64(30) {
		d := throw(seed)
		w := fresh()
		for _, o := range parse(t, d.script(600)) {
			w.Do(o)
			for env := 1; env <= api.MaxEnvs; env++ {
				if w.System(env) == nil {
					continue
				}
				st := w.System(env).State()
				var frames, blocks []int
				for _, e := range st.Pages {
					frames = append(frames, e.Frame)
				}
				for _, i := range st.Files {
					blocks = append(blocks, i.Blocks...)
				}
				slices.Sort(frames)
				slices.Sort(blocks)
				if has := owned(w, env); !slices.Equal(has[0], slices.Compact(frames)) || !slices.Equal(has[1], blocks) {
					t.Fatalf("behind %v environment %d has %v, not %v", o, env, has, st)
				}
			}
		}
		for _, o := range parse(t, "end 1", "end 2", "end 3") {
			w.Do(o)
		}
		if n := w.Kernel().Spare(); n != [3]int{32, 32, 8} {
			t.Fatalf("spare: %v", n)
		}
	}
}

func TestApart(t *testing.T) { // P4: what an environment is answered hangs on what it does itself, and on its turns
	for seed := range uint64(60) {
		d := throw(seed)
		alone := parse(t, d.script(0))[:1]
		together := slices.Clone(alone)
		programs := d.programs()
		for range 900 {
			if o := d.op(programs); d.IntN(2) == 0 && o.Env != 1 && (o.What != world.Turn || (o.N%8+8)%8 > 1) {
				together = append(together, o)
				continue
			}
			o := world.Op{What: world.Turn, N: d.IntN(2) - 8*d.IntN(3), PID: d.pid()}
			switch d.IntN(100) {
			case 0:
				o = world.Op{What: world.Ask, Env: 1, Wish: upgrade.Wish{Script: snap.Script, Tries: 2, Space: 4000 - 40*d.IntN(100)}}
			case 1:
				o = world.Op{What: world.Fail, Env: 1, N: d.IntN(8)}
			}
			alone, together = append(alone, o), append(together, o)
		}
		holds(t, together)
		if a, b := Trace(alone, 1), Trace(together, 1); len(a) < 200 || !slices.Equal(a, b) {
			t.Fatalf("%d: another trace of the first one", seed)
		}
		its := func(l []world.Op) []world.Reply {
			var replies []world.Reply
			for i, r := range Run(l) {
				if l[i].Env == 1 || r.Env == 1 {
					replies = append(replies, r)
				}
			}
			return replies
		}
		if !slices.Equal(its(alone), its(together)) {
			t.Fatalf("%d: other replies to the first one", seed)
		}
	}
}

func TestCommits(t *testing.T) { // P5: six slices, or an error's number within six for each try
	for _, x := range []struct {
		ask    string
		fails  string
		slices int
		last   upgrade.Report
	}{
		{"ask 1 1 6000", "", 6, upgrade.Report{Phase: 6, Attempt: 1, Version: 2}},
		{"ask 1 5 6000", "", 6, upgrade.Report{Phase: 6, Attempt: 1, Version: 2}},
		{"ask 1 1 6000", "fail 1 6", 6, upgrade.Report{Phase: 6, Attempt: 1, Err: api.ErrFail, Version: 1}},
		{"ask 1 1 6000", "fail 1 1", 1, upgrade.Report{Phase: 1, Attempt: 1, Err: api.ErrFail, Version: 1}},
		{"ask 1 2 6000", "fail 1 2\nfail 1 3", 5, upgrade.Report{Phase: 3, Attempt: 2, Err: api.ErrFail, Version: 1}},
		{"ask 1 3 6000", "fail 1 5\nfail 1 5", 16, upgrade.Report{Phase: 6, Attempt: 3, Version: 2}},
		{"ask 1 5 6000", strings.Repeat("fail 1 6\n", 5), 30, upgrade.Report{Phase: 6, Attempt: 5, Err: api.ErrFail, Version: 1}},
		{"ask 1 2 10", "", 2, upgrade.Report{Phase: 1, Attempt: 2, Err: api.ErrFull, Version: 1}},
		{"bad 1 2 6000", "", 6, upgrade.Report{Phase: 3, Attempt: 2, Err: api.ErrForm, Version: 1}},
	} {
		l := parse(t, "begin 1 1 6 6 1 "+counts, turns(30, "0 1"), x.fails, x.ask, turns(x.slices+3, "0 1"))
		holds(t, l)
		r := Run(l)
		behind := len(l) - 3
		if r[behind-1].Report != x.last || r[behind].Report != (upgrade.Report{Version: x.last.Version}) || r[behind-x.slices].Report.Phase != 1 {
			t.Errorf("%s, %s: %v, then %v", x.ask, x.fails, r[behind-1], r[behind])
		}
	}
}

func TestNamedErrors(t *testing.T) { // P6: what is spent is a named error, to applications too, and the model tells the same; a code that is broken ends its process with 132
	fill := "store_r4_r4/add_r4_r6/" // one more page
	for _, x := range []struct {
		program, quota string
		last           sys.Event
	}{
		{"set_r1_2/call_6", "4 4", done(1, 6, 65535)},
		{"set_r1_4/call_5", "4 4", done(1, 5, 65534)},
		{"call_9/call_9/call_9", "4 4", done(1, 9, 65533)},
		{"set_r1_16/call_12", "4 4", done(1, 12, 65533)},
		{strings.Repeat("call_2/", 6), "4 4", done(1, 2, 65533)},
		{strings.Repeat("call_5/", 5), "4 4", done(1, 5, 65533)},
		{"call_5/set_r1_2/set_r3_16/call_8", "4 1", done(1, 8, 65533)},
		{"call_5/set_r1_2/set_r3_16/call_8/call_8/call_8", "4 9", done(1, 8, 65533)},
		{"call_5/set_r1_2/set_r3_1/call_8/set_r2_0/call_11/call_7", "0 1", done(1, 7, 65532)},
		{"call_3", "4 4", done(1, 3, 65531)},
		{"call_9/set_r1_2/call_6/set_r1_3/call_8", "4 4", done(1, 8, 65530)},
		{"call_18", "4 4", done(1, 18, 65529)},
		{"call_15", "4 4", done(1, 15, 65529)},
		{"set_r6_16/" + fill + fill + fill, "2 4", exited(1, 137)},
		{"set_r6_16/" + fill + fill + fill + fill + fill, "8 8", exited(1, 139)},
		{"jump_9", "4 4", exited(1, 132)},
		{"set_r1_5", "4 4", exited(1, 132)},
		{"stop", "4 4", exited(1, 0)},
	} {
		for _, env := range []string{"1", "3"} {
			l := parse(t, "begin "+env+" 1 "+x.quota+" 1 "+x.program, turns(12, "0 1"))
			holds(t, l)
			number, _ := strconv.Atoi(env)
			if e := Trace(l, number); !slices.Contains(e, x.last) {
				t.Errorf("%s: %v, not %v", x.program, e, x.last)
			}
		}
	}
}

func TestBothTogether(t *testing.T) { // P6, 36.3: frames and blocks together are fewer than 42 less the slices
	program := "set_r1_0/call_13/set_r1_16/call_12/files:/mov_r1_r5/set_r2_0/call_5/mov_r1_r0/set_r3_16/call_8/call_8/set_r6_1/add_r5_r6/mov_r2_r5/set_r7_4/same_r2_r7/zero_r2_files/" +
		"again:/set_r4_0/set_r6_16/pages:/store_r4_r6/add_r4_r6/set_r7_256/mov_r2_r4/same_r2_r7/zero_r2_pages/call_2/jump_again"
	for most := 1; most <= 8; most++ {
		l := parse(t, "begin 1 1 32 32 "+strconv.Itoa(most)+" "+program, turns(260, "0 1"))
		holds(t, l)
		w := fresh()
		peak, ended := 0, false
		for _, o := range l {
			r := w.Do(o)
			has := owned(w, 1)
			peak = max(peak, len(has[0])+len(has[1]))
			ended = ended || r.Event == exited(1, 137)
		}
		if peak != 42-most || !ended {
			t.Errorf("%d slices: %d frames and blocks, %v", most, peak, ended)
		}
	}
}

func TestExamples(t *testing.T) { // the document's examples of the whole
	l := parse(t, "begin 1 1 6 6 1 call_14/call_15", "turn 0 1", "ask 1 1 6000", turns(6, "0 1"), "turn 0 1")
	traces(t, l, 1, done(1, 14, 1), done(1, 15, 0))
	l = parse(t, "begin 1 1 6 6 1 call_14/call_15", "turn 0 1", "turn 0 1")
	traces(t, l, 1, done(1, 14, 1), done(1, 15, 65529))

	twice := " 6 6 1 call_5/set_r1_2/call_10/set_r2_9/call_11/set_r1_3/set_r2_0/set_r3_1/call_8/set_r1_2/set_r2_60/call_8"
	for version, size := range map[string]string{"1": "\x00\x00\x00\x00\x00\x00\x00\x00\x00\x00", "2": "\x00\x00\x00\x00\x00\x00\x00\x00\x00\x00\x00"} {
		l = parse(t, "begin 1 "+version+twice, turns(12, "0 1"))
		holds(t, l)
		w := fresh()
		for _, o := range l {
			w.Do(o)
		}
		if b, _ := w.System(1).File(0); b != size {
			t.Errorf("version %s: %q", version, b)
		}
	}

	l = parse(t, "begin 1 1 6 6 1 "+counts, "turn 0 1", "fail 1 6", "ask 1 1 6000", turns(7, "0 1"))
	holds(t, l)
	if r := Run(l); r[9].Report != (upgrade.Report{Phase: 6, Attempt: 1, Err: api.ErrFail, Version: 1}) || r[10].Report != (upgrade.Report{Version: 1}) {
		t.Errorf("%v, %v", r[9], r[10])
	}

	l = parse(t, "begin 1 1 6 6 1 "+counts, "turn 0 1")
	l = append(l, world.Op{What: world.Ask, Env: 1, Wish: upgrade.Wish{Script: "drop files", Tries: 1, Space: 6000}})
	l = append(l, parse(t, turns(3, "0 1"))...)
	holds(t, l)
	if r := Run(l); r[5].Report != (upgrade.Report{Phase: 3, Attempt: 1, Err: api.ErrForm, Version: 1}) {
		t.Errorf("%v", r[5])
	}

	l = parse(t, "raw 1 1 4 4 1", "bind 1 1", "get 1 1 1 3", "get 1 1 2 3", "get 1 9 1 3")
	holds(t, l)
	if r := Run(l); r[2].Err != api.OK || r[3].Err != api.ErrStale || r[4].Reply != (kern.Reply{Err: api.ErrStale}) {
		t.Errorf("%v", r)
	}

	traces(t, parse(t, "begin 1 1 1 6 1 set_r4_15/storew_r4_r4", turns(2, "0 1")), 1, exited(1, 137))
	traces(t, parse(t, "begin 1 1 6 6 1 call_9/set_r1_2/set_r3_5/call_7/call_7/set_r1_3/call_6/set_r1_2/call_7", turns(6, "0 1")), 1,
		done(1, 9, 770), sys.Event{Kind: sys.Blocked, PID: 1, Call: 7}, sys.Event{Kind: sys.Blocked, PID: 1, Call: 7}, sys.Event{Kind: sys.Blocked, PID: 1, Call: 7})
	traces(t, parse(t, "begin 1 1 6 6 1 call_9/set_r3_2/call_2/zero_r0_child/set_r1_3/call_6/set_r1_2/call_7/call_7/call_14/child:/set_r1_3/call_8/stop",
		turns(9, "0 1"), turns(4, "0 2"), turns(3, "0 1")), 1,
		done(1, 9, 770), done(1, 2, 2), done(1, 6, 0), sys.Event{Kind: sys.Blocked, PID: 1, Call: 7}, sys.Event{Kind: sys.Blocked, PID: 1, Call: 7},
		done(2, 8, 2), exited(2, 0), done(1, 7, 2), done(1, 7, 0), done(1, 14, 1))
}
