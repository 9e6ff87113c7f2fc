package upgrade

import (
	"math"
	"slices"
	"strings"
	"testing"

	"imago/abs"
	"imago/api"
	"imago/kern"
	"imago/rest"
	"imago/snap"
	"imago/sys"
)

func TestNumbers(t *testing.T) { // the chapter's numbers
	if l := []int{Snapshot, Decode, Transform, Validate, Prepare, Commit, MaxTries}; !slices.Equal(l, []int{1, 2, 3, 4, 5, 6, 5}) {
		t.Errorf("%v", l)
	}
}

func TestExample(t *testing.T) { // the chapter's example
	b := family(t, 0)
	b.asks(right(), api.OK)
	b.changes(1)
	b = family(t, 0)
	b.fails(Validate)
	b.asks(Wish{Script: snap.Script, Tries: 2, Space: enough}, api.OK)
	b.attempt(1, Validate, api.ErrFail)
	b.changes(2)
	b = family(t, 0)
	b.fails(Validate)
	b.asks(right(), api.OK)
	b.attempt(1, Validate, api.ErrFail)
	b.idle()
}

func TestNew(t *testing.T) { // 33.1, 33.3: a manager of a new system, of either version; nothing is bound for it
	for version := 1; version <= 2; version++ {
		b := start(t, version, 4, 4, "\x14\x0e", "")
		k := machine(t, version, 4, 4)
		s, _ := sys.New(k, 1, version, b.p.Programs)
		if !identical(b.m.System().State(), s.State()) || memory(b.m.System()) != memory(s) || b.m.Busy() {
			t.Errorf("%v, not %v", b.m.System().State(), s.State())
		}
		if pictureOf(k) != pictureOf(b.p.Kernel) {
			t.Errorf("something was bound: %v", pictureOf(b.p.Kernel))
		}
	}
}

func TestNewWrong(t *testing.T) { // 33.1, R4: sys.New's error, and no manager
	k := machine(t, 1, 4, 4)
	was := pictureOf(k)
	long := strings.Repeat("\x00", api.MaxCode+1)
	wrong := func(programs []string, version int, want api.Errno) {
		t.Helper()
		if m, e := New(rest.Place{Kernel: k, Env: 1, Programs: programs}, version); m != nil || e != want {
			t.Errorf("New(%q, %d): %v, %v, not %v", programs, version, m, e, want)
		}
	}
	for _, version := range append([]int{0, 3}, far...) {
		wrong([]string{""}, version, api.ErrArg)
		wrong([]string{long}, version, api.ErrArg)
	}
	for version := 1; version <= 2; version++ {
		wrong(nil, version, api.ErrArg)
		wrong([]string{}, version, api.ErrArg)
		wrong(make([]string, 9), version, api.ErrArg)
		wrong([]string{long}, version, api.ErrLong)
		wrong([]string{"", long[1:], long}, version, api.ErrLong)
	}
	if pictureOf(k) != was {
		t.Error("something has changed")
	}
}

func TestNewElsewhere(t *testing.T) { // 33.1: without a kernel, or of an environment that is not open, there is a system still; Prepare tells ErrNone then
	for _, p := range []rest.Place{{Env: 1}, {Kernel: machine(t, 1, 4, 4), Env: 3}, {Kernel: machine(t, 1, 4, 4)}, {Kernel: &kern.Kernel{}, Env: math.MaxInt}} {
		p.Programs = []string{"\x14\x0e"}
		m, e := New(p, 1)
		if e != api.OK {
			t.Fatal(e)
		}
		b := &box{t, p, m}
		b.asks(Wish{Script: snap.Script, Tries: 2, Space: enough}, api.OK)
		for attempt := 1; attempt <= 2; attempt++ {
			for phase := Snapshot; phase <= Prepare; phase++ {
				want := Report{Phase: phase, Attempt: attempt, Version: 1}
				if phase == Prepare {
					want.Err = api.ErrNone
				}
				if e, r := m.Slice(1); e != (sys.Event{}) || r != want {
					t.Errorf("Slice: %v, %v, not %v", e, r, want)
				}
			}
		}
		b.idle()
		if e, r := m.Slice(1); e != (sys.Event{Kind: sys.Done, PID: 1, Call: 14, Result: 1}) || r != (Report{Version: 1}) {
			t.Errorf("Slice: %v, %v", e, r)
		}
	}
}

func TestProgramsAreNotKept(t *testing.T) { // R3: nor is the list of programs changed
	b := family(t, 0)
	programs := b.p.Programs
	was := slices.Clone(programs)
	b.asks(right(), api.OK)
	b.slice(Report{Phase: Snapshot, Attempt: 1, Version: 1})
	if !slices.Equal(programs, was) {
		t.Error("programs have changed")
	}
	clear(programs)
	for phase := Decode; phase <= Commit; phase++ {
		b.m.Slice(1)
	}
	if e, r := b.m.Slice(1); e.Kind != sys.Ran && e.Kind != sys.Done || r != (Report{Version: 2}) {
		t.Errorf("Slice: %v, %v", e, r)
	}
}

func TestAsk(t *testing.T) { // 33.1: Tries from 1 to MaxTries, Space from 0 on; the next slice is a phase
	for tries := 1; tries <= MaxTries; tries++ {
		for _, space := range []int{0, 1, enough, 1 << 32, math.MaxInt} {
			b := family(t, 0)
			b.asks(Wish{Script: snap.Script, Tries: tries, Space: space}, api.OK)
			if space >= enough {
				b.changes(1)
				continue
			}
			for attempt := 1; attempt <= tries; attempt++ {
				b.attempt(attempt, Snapshot, api.ErrFull)
			}
			b.idle()
		}
	}
}

func TestAskWrong(t *testing.T) { // 33.1, R1, R4: ErrArg, whatever state it is in; then nothing is under way
	wrong := func(b *box) {
		b.t.Helper()
		for _, n := range append([]int{0, 6}, far...) {
			b.asks(Wish{Script: snap.Script, Tries: n, Space: enough}, api.ErrArg)
		}
		for _, n := range []int{-1, -1 << 32, math.MinInt} {
			b.asks(Wish{Script: snap.Script, Tries: 1, Space: n}, api.ErrArg)
			b.asks(Wish{Tries: 6, Space: n}, api.ErrArg)
		}
		b.asks(Wish{}, api.ErrArg)
	}
	b := family(t, 0)
	wrong(b)
	b.idle()
	if e, r := b.m.Slice(1); e.Kind == sys.Idle || r != (Report{Version: 1}) {
		t.Errorf("Slice: %v, %v", e, r)
	}
	b.asks(right(), api.OK)
	for phase := Snapshot; phase < Commit; phase++ {
		wrong(b)
		b.slice(Report{Phase: phase, Attempt: 1, Version: 1})
	}
	wrong(b)
	b.slice(Report{Phase: Commit, Attempt: 1, Version: 2})
	wrong(b)
	wrong(start(t, 2, 4, 4, ""))
}

func TestAskTwice(t *testing.T) { // 33.1: ErrState, as long as a change is under way: it is still the first one
	b := family(t, 0)
	b.fails(Transform, Commit)
	b.asks(Wish{Script: snap.Script, Tries: 3, Space: enough}, api.OK)
	for _, r := range []Report{{1, 1, 0, 1}, {2, 1, 0, 1}, {3, 1, api.ErrFail, 1}, {1, 2, 0, 1}, {2, 2, 0, 1}, {3, 2, 0, 1}, {4, 2, 0, 1}, {5, 2, 0, 1}, {6, 2, api.ErrFail, 1}, {1, 3, 0, 1}, {2, 3, 0, 1}, {3, 3, 0, 1}, {4, 3, 0, 1}, {5, 3, 0, 1}, {6, 3, 0, 2}} {
		b.asks(right(), api.ErrState)
		b.asks(Wish{Script: "drop files", Tries: 5}, api.ErrState)
		b.slice(r)
	}
	b.asks(right(), api.ErrState)
}

func TestAskOfVersion2(t *testing.T) { // 33.1: ErrState, of a system that was changed, or began so; its next slice is a step
	b, c := family(t, 0), start(t, 2, 4, 4, text(t, "loop:, call 14, jump loop"))
	b.asks(right(), api.OK)
	b.changes(1)
	for _, x := range []*box{b, c} {
		for range 3 {
			x.asks(right(), api.ErrState)
			x.asks(Wish{Tries: 5}, api.ErrState)
			if e, r := x.m.Slice(1); e.Kind != sys.Ran && e.Kind != sys.Done || r != (Report{Version: 2}) {
				t.Errorf("Slice: %v, %v", e, r)
			}
		}
	}
}

func TestFailWrong(t *testing.T) { // 33.1: ErrArg, if it is no phase; then nothing is to fail
	b := family(t, 0)
	for range 2 {
		for _, n := range append([]int{0, 7, 257}, far...) {
			if e := b.m.Fail(n); e != api.ErrArg {
				t.Errorf("Fail(%d): %v", n, e)
			}
		}
		b.idle()
	}
	b.asks(right(), api.OK)
	for _, n := range append([]int{0, 7, 257}, far...) {
		if e := b.m.Fail(n); e != api.ErrArg {
			t.Errorf("Fail(%d): %v", n, e)
		}
	}
	b.changes(1)
}

func TestEachPhaseFails(t *testing.T) { // 33.1, 33.4: with ErrFail, ahead of what it does; the attempt is over, all is as it was; the next one does what the first one would have done
	for phase := Snapshot; phase <= Commit; phase++ {
		for tries := 1; tries <= MaxTries; tries++ {
			b := family(t, phase)
			was, st := pictureOf(b.p.Kernel), b.m.System().State()
			for range tries {
				b.fails(phase)
			}
			b.asks(Wish{Script: snap.Script, Tries: tries, Space: enough}, api.OK)
			for attempt := 1; attempt <= tries; attempt++ {
				b.attempt(attempt, phase, api.ErrFail)
			}
			b.idle()
			if pictureOf(b.p.Kernel) != was || !identical(b.m.System().State(), st) {
				t.Fatalf("%v, not %v", pictureOf(b.p.Kernel), was)
			}
			b.asks(right(), api.OK)
			b.changes(1)
		}
	}
}

func TestAborted(t *testing.T) { // 'Where a phase fails': a handover that is open is aborted
	b := family(t, 0)
	b.fails(Commit)
	b.asks(right(), api.OK)
	for phase := Snapshot; phase < Commit; phase++ {
		b.slice(Report{Phase: phase, Attempt: 1, Version: 1})
	}
	h := b.m.change.made.hand
	if !h.Open() {
		t.Error("not open behind Prepare")
	}
	b.slice(Report{Phase: Commit, Attempt: 1, Err: api.ErrFail, Version: 1})
	if h.Open() {
		t.Error("open behind a failure")
	}
}

func TestFailAheadOfWhatFails(t *testing.T) { // 33.1: ErrFail is told ahead of what the phase itself would tell
	b := family(t, 0)
	b.fails(Snapshot, Transform, Validate)
	b.asks(Wish{Script: snap.Script, Tries: 2}, api.OK)
	b.attempt(1, Snapshot, api.ErrFail)
	b.attempt(2, Snapshot, api.ErrFull)
	b.asks(Wish{Script: "drop files", Tries: 2, Space: enough}, api.OK)
	b.attempt(1, Transform, api.ErrFail)
	b.attempt(2, Transform, api.ErrForm)
	b.asks(Wish{Script: protected, Tries: 2, Space: enough}, api.OK)
	b.attempt(1, Validate, api.ErrFail)
	b.attempt(2, Validate, api.ErrForm)
	b.idle()
}

// protected is a script of which comes a system with another view: its areas may not be written.
var protected = strings.Replace(snap.Script, "prot i8 3", "prot i8 1", 1)

func TestFailsOfOnePhase(t *testing.T) { // 33.1: each Fail once, as many as there are, whenever that phase is to be done: also in the next change
	b := family(t, 0)
	b.fails(Decode, Decode, Decode, Prepare)
	b.asks(Wish{Script: snap.Script, Tries: 2, Space: enough}, api.OK)
	b.attempt(1, Decode, api.ErrFail)
	b.attempt(2, Decode, api.ErrFail)
	b.idle()
	b.asks(Wish{Script: snap.Script, Tries: 5, Space: enough}, api.OK)
	b.attempt(1, Decode, api.ErrFail)
	b.attempt(2, Prepare, api.ErrFail)
	b.fails(Prepare, Snapshot)
	b.attempt(3, Snapshot, api.ErrFail)
	b.attempt(4, Prepare, api.ErrFail)
	b.changes(5)
}

func TestFailBehindIts(t *testing.T) { // 33.1: one that comes behind its phase is for the next attempt; in version 2 it is taken, and counts for nothing
	b := family(t, 0)
	b.asks(Wish{Script: snap.Script, Tries: 3, Space: enough}, api.OK)
	for phase := Snapshot; phase < Commit; phase++ {
		b.slice(Report{Phase: phase, Attempt: 1, Version: 1})
	}
	b.fails(Decode, Commit)
	b.slice(Report{Phase: Commit, Attempt: 1, Err: api.ErrFail, Version: 1})
	b.attempt(2, Decode, api.ErrFail)
	b.changes(3)
	b.fails(Snapshot, Commit)
	if e, r := b.m.Slice(1); e.Kind == sys.Idle || r != (Report{Version: 2}) {
		t.Errorf("Slice: %v, %v", e, r)
	}
}

func TestSpace(t *testing.T) { // Snapshot: ErrFull, if twice the state's bytes are more than the space
	b := family(t, 0)
	s, e := snap.Bytes(b.m.System().State())
	if e != api.OK {
		t.Fatal(e)
	}
	for _, space := range []int{0, 1, len(s), len(s) + 1, 2*len(s) - 2, 2*len(s) - 1} {
		b.asks(Wish{Script: snap.Script, Tries: 1, Space: space}, api.OK)
		b.attempt(1, Snapshot, api.ErrFull)
		b.idle()
	}
	b.asks(Wish{Script: snap.Script, Tries: 1, Space: 2 * len(s)}, api.OK)
	b.changes(1)
}

func TestScriptsThatAreWrong(t *testing.T) { // Transform: rest.Move's error: a line is wrong, a statement, or another type comes of it
	b := family(t, 0)
	for _, script := range []string{"", "foo", "drop files", "drop foo", snap.Script[1:], snap.Script + "drop opens", snap.Script + snap.Script, strings.Repeat("x", 1<<20)} {
		for tries := 1; tries <= 2; tries++ {
			b.asks(Wish{Script: script, Tries: tries, Space: enough}, api.OK)
			for attempt := 1; attempt <= tries; attempt++ {
				b.attempt(attempt, Transform, api.ErrForm)
			}
			b.idle()
		}
	}
	b.asks(right(), api.OK)
	b.changes(1)
}

func TestOtherScripts(t *testing.T) { // Transform: whatever makes the schema of version 2, and a system that is Right, does; with all fuel
	for _, script := range []string{
		snap.Script + "; nothing more\n",
		"rename procs p\n" + snap.Script + "rename p procs",
		strings.Repeat("sort pages page pid frame\nsort fds kind obj\n", 26) + "sort pages pid page\nsort fds pid slot\n" + strings.Replace(snap.Script, "sort areas pid first\n", "", 1) + "sort spans pid first\n",
	} {
		b := family(t, 0)
		b.asks(Wish{Script: script, Tries: 1, Space: enough}, api.OK)
		b.changes(1)
	}
}

func TestScriptThatTakesLong(t *testing.T) { // Transform: with all fuel: 96 pages are sorted again and again
	b := start(t, 1, 20, 4, text(t, "set r1 12, call 12, set r2 256, set r5 16, page:, store r4 r2, add r4 r5, mov r3 r4, less r3 r2, other r3 page, call 2, call 2, call 2, loop:, jump loop"))
	for range 400 {
		for pid := 1; pid <= 6; pid++ {
			b.m.Slice(pid)
		}
	}
	if st := b.m.System().State(); len(st.Pages) != 96 {
		t.Fatalf("%d pages", len(st.Pages))
	}
	script := strings.Repeat("sort pages frame\n", 52) + "sort pages pid page\n" + snap.Script
	s, _ := snap.Bytes(b.m.System().State())
	if n, e := rest.Cost(s, script); n < 5000 || e != api.OK {
		t.Fatalf("Cost: %d, %v", n, e)
	}
	b.asks(Wish{Script: script, Tries: 1, Space: enough}, api.OK)
	b.changes(1)
}

func TestNotRight(t *testing.T) { // Validate: rest.Build's error; ErrForm, if what is built is not Right
	b := family(t, 0)
	for _, script := range []string{
		protected,
		strings.Replace(snap.Script, "prot i8 3", "prot i8 2", 1),
		strings.Replace(snap.Script, "prot i8 3", "prot i8 0", 1),
		strings.Replace(snap.Script, "sort areas pid first\n", "", 1),
		strings.Replace(snap.Script, "pid first", "first pid", 1),
	} {
		for tries := 1; tries <= 2; tries++ {
			b.asks(Wish{Script: script, Tries: tries, Space: enough}, api.OK)
			for attempt := 1; attempt <= tries; attempt++ {
				b.attempt(attempt, Validate, api.ErrForm)
			}
			b.idle()
		}
	}
	b.asks(right(), api.OK)
	b.changes(1)
}

func TestClosedMeanwhile(t *testing.T) { // phases fail by themselves, and the change ends, if the environment is closed by somebody; nothing is bound then
	for _, c := range []struct {
		ahead, phase int // of which phase it is closed, and which one fails
		want         api.Errno
	}{{Snapshot, Validate, api.ErrForm}, {Decode, Validate, api.ErrForm}, {Transform, Validate, api.ErrForm}, {Validate, Validate, api.ErrForm}, {Prepare, Prepare, api.ErrNone}, {Commit, Commit, api.ErrForm}} {
		b := family(t, 0)
		old := b.m.System()
		b.asks(right(), api.OK)
		for phase := Snapshot; phase <= c.phase; phase++ {
			if phase == c.ahead {
				b.p.Kernel.Close(1)
			}
			want := Report{Phase: phase, Attempt: 1, Version: 1}
			if phase == c.phase {
				want.Err = c.want
			}
			if e, r := b.m.Slice(1); e != (sys.Event{}) || r != want {
				t.Errorf("Slice: %v, %v, not %v", e, r, want)
			}
		}
		b.idle()
		if b.m.System() != old || b.p.Kernel.Spare() != [3]int{39, 39, 3} {
			t.Errorf("spare: %v", b.p.Kernel.Spare())
		}
	}
}

func TestFreedMeanwhile(t *testing.T) { // Prepare and Commit tell hand's errors: a frame, or a block, is not the environment's any more
	for _, kind := range []int{api.Frame, api.Block} {
		for ahead := Prepare; ahead <= Commit; ahead++ {
			b := family(t, 0)
			k, old := b.p.Kernel, b.m.System()
			b.asks(right(), api.OK)
			for phase := Snapshot; phase < ahead; phase++ {
				b.slice(Report{Phase: phase, Attempt: 1, Version: 1})
			}
			k.Do(1, kern.Call{What: kern.Free, H: k.Root(kind, k.List(1, kind)[1])})
			was := pictureOf(k)
			if e, r := b.m.Slice(1); e != (sys.Event{}) || r != (Report{Phase: ahead, Attempt: 1, Err: api.ErrForm, Version: 1}) {
				t.Errorf("Slice: %v, %v", e, r)
			}
			b.idle()
			if b.m.System() != old || pictureOf(k) != was {
				t.Error("something has changed")
			}
		}
	}
}

func TestOthersAreFree(t *testing.T) { // Commit: what the environment has besides is free then, and no sooner; of slices nothing changes
	b := family(t, 0)
	k := b.p.Kernel
	var more [2]int
	for i, kind := range []int{api.Frame, api.Block} {
		more[i] = k.Do(1, kern.Call{What: kern.Bind, A: kind}).N
	}
	b.asks(right(), api.OK)
	for phase := Snapshot; phase < Commit; phase++ {
		b.slice(Report{Phase: phase, Attempt: 1, Version: 1})
	}
	was := pictureOf(k)
	b.m.Slice(1)
	was.versions[1] = 2
	for i, n := range more {
		was.bound[i+1][n] = resource{}
		was.spare[i]++
	}
	if pictureOf(k) != was {
		t.Errorf("%v, not %v", pictureOf(k), was)
	}
	b.just()
}

func TestSlice(t *testing.T) { // 33.2: a step of the process, as that of a system; the report is of no phase
	for version := 1; version <= 2; version++ {
		d := throw(uint64(version))
		programs := d.programs(t)
		b := start(t, version, 8, 8, programs...)
		k := machine(t, version, 8, 8)
		s, _ := sys.New(k, 1, version, programs)
		for range 500 {
			pid := 1 + d.IntN(6)
			e, r := b.m.Slice(pid)
			if want := s.Step(pid); e != want || r != (Report{Version: version}) {
				t.Fatalf("Slice: %v, %v, not %v", e, r, want)
			}
		}
		if pictureOf(k) != pictureOf(b.p.Kernel) || !identical(s.State(), b.m.System().State()) {
			t.Fatal("not as a system")
		}
		for _, pid := range append([]int{0, 7}, far...) {
			if e, r := b.m.Slice(pid); e != (sys.Event{PID: pid}) || r != (Report{Version: version}) {
				t.Errorf("Slice(%d): %v, %v", pid, e, r)
			}
		}
	}
}

func TestSliceOfAnyone(t *testing.T) { // 33.2: while a change is under way it is a phase, whichever process is named
	b := family(t, 0)
	b.asks(right(), api.OK)
	for i, pid := range []int{0, 2, -1, math.MaxInt, 6, math.MinInt} {
		want := Report{Phase: i + 1, Attempt: 1, Version: 1 + i/5}
		if e, r := b.m.Slice(pid); e != (sys.Event{}) || r != want {
			t.Errorf("Slice(%d): %v, %v, not %v", pid, e, r, want)
		}
	}
	if e, r := b.m.Slice(-1); e != (sys.Event{PID: -1}) || r != (Report{Version: 2}) {
		t.Errorf("Slice: %v, %v", e, r)
	}
}

func TestNoManager(t *testing.T) { // Ask and Fail ErrState (ErrArg first), Slice zero values, System nil, Busy false; so of a zero one
	for _, m := range []*Manager{nil, {}} {
		for range 2 {
			if e := m.Ask(right()); e != api.ErrState {
				t.Errorf("Ask: %v", e)
			}
			for _, w := range []Wish{{}, {Script: snap.Script, Tries: 6, Space: 1}, {Tries: 0}, {Tries: 1, Space: -1}} {
				if e := m.Ask(w); e != api.ErrArg {
					t.Errorf("Ask(%v): %v", w, e)
				}
			}
			for phase := Snapshot; phase <= Commit; phase++ {
				if e := m.Fail(phase); e != api.ErrState {
					t.Errorf("Fail(%d): %v", phase, e)
				}
			}
			for _, n := range append([]int{0, 7}, far...) {
				if e := m.Fail(n); e != api.ErrArg {
					t.Errorf("Fail(%d): %v", n, e)
				}
				if e, r := m.Slice(n); e != (sys.Event{}) || r != (Report{}) {
					t.Errorf("Slice(%d): %v, %v", n, e, r)
				}
			}
			if m.System() != nil || m.Busy() {
				t.Errorf("%v, %v", m.System(), m.Busy())
			}
		}
	}
}

func TestGoesOnAlike(t *testing.T) { // 33.6: behind failed attempts, and behind a change, processes are answered what they would be without
	a, b := family(t, 7), family(t, 7)
	d := throw(1)
	steps := func(n int) {
		t.Helper()
		for range n {
			pid := 1 + d.IntN(2)
			x, _ := a.m.Slice(pid)
			if y, _ := b.m.Slice(pid); x != y {
				t.Fatalf("%v, not %v", y, x)
			}
		}
		if !abs.Same(abs.Of(a.m.System()), abs.Of(b.m.System())) {
			t.Fatalf("%v, not %v", b.m.System().State(), a.m.System().State())
		}
	}
	for phase := Snapshot; phase <= Commit; phase++ {
		b.fails(phase)
		b.asks(right(), api.OK)
		b.attempt(1, phase, api.ErrFail)
		steps(40)
	}
	b.asks(right(), api.OK)
	b.changes(1)
	steps(400)
	b.just()
}
