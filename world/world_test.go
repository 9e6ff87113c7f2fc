package world

import (
	"math"
	"slices"
	"strings"
	"testing"

	"imago/abs"
	"imago/api"
	"imago/caps"
	"imago/kern"
	"imago/rest"
	"imago/snap"
	"imago/sys"
	"imago/upgrade"
)

func TestNumbers(t *testing.T) { // the chapter's numbers
	if l := []int{Begin, End, Turn, Ask, Fail, Raw}; !slices.Equal(l, []int{1, 2, 3, 4, 5, 6}) {
		t.Errorf("%v", l)
	}
}

func TestExample(t *testing.T) { // the chapter's example
	b := start(t, 8, 8, 4)
	b.begins(1, 1, [3]int{4, 4, 1}, text(t, loop))
	b.step(0, 1, 1, sys.Event{Kind: sys.Done, PID: 1, Call: 14, Result: 1}, 1)
}

func TestExampleOfTheWhole(t *testing.T) { // DOC.md, example 1: call 15 is answered by version 2; P5
	b := start(t, 32, 32, 8)
	b.begins(1, 1, [3]int{6, 6, 1}, "\x14\x0e\x14\x0f")
	b.step(0, 1, 1, sys.Event{Kind: sys.Done, PID: 1, Call: 14, Result: 1}, 1)
	b.does(Op{What: Ask, Env: 1, Wish: upgrade.Wish{Script: snap.Script, Tries: 1, Space: 6000}}, Reply{})
	for phase := upgrade.Snapshot; phase <= upgrade.Commit; phase++ {
		b.does(Op{What: Turn, PID: 1}, Reply{Env: 1, Report: upgrade.Report{Phase: phase, Attempt: 1, Version: 1 + phase/6}})
	}
	b.step(0, 1, 1, sys.Event{Kind: sys.Done, PID: 1, Call: 15}, 2)
	c := start(t, 32, 32, 8)
	c.begins(1, 1, [3]int{6, 6, 1}, "\x14\x0f")
	c.step(0, 1, 1, sys.Event{Kind: sys.Done, PID: 1, Call: 15, Result: 65529}, 1)
}

func TestNew(t *testing.T) { // 34.1: kern.New's error; else a world in which all is spare
	for _, n := range []int{1, 2, 63, 64} {
		for _, m := range []int{1, 7, 64} {
			b := start(t, n, m, 3)
			if b.w.Kernel() == nil || b.w.Kernel().Spare() != [3]int{n, m, 3} {
				t.Errorf("spare: %v", b.w.Kernel().Spare())
			}
			for env := range 5 {
				if b.w.System(env) != nil || b.w.Busy(env) {
					t.Errorf("environment %d has a system", env)
				}
			}
		}
	}
	for _, n := range []int{math.MinInt, -1, 0, 65, 1 << 32, 1<<32 + 1, math.MaxInt} {
		for _, c := range [][3]int{{n, 4, 4}, {4, n, 4}, {4, 4, n}, {n, n, n}} {
			if w, e := New(c[0], c[1], c[2]); w != nil || e != api.ErrArg {
				t.Errorf("New(%v): %v, %v", c, w, e)
			}
		}
	}
}

func TestOthers(t *testing.T) { // the table's last line: ErrArg
	b := start(t, 8, 8, 4)
	b.begins(1, 1, [3]int{4, 4, 1}, text(t, loop))
	for _, what := range append([]int{0, 7, 8, 257, 262}, far...) {
		b.refuses(Op{What: what}, api.ErrArg)
		b.refuses(Op{What: what, Env: 1, Version: 1, PID: 1, Programs: []string{""}, Wish: wish()}, api.ErrArg)
	}
}

func TestBegin(t *testing.T) { // Begin: kern.Open, and all slices that it may have; a manager of a new system, if there are Programs
	b := start(t, 16, 16, 8)
	programs := []string{text(t, loop), "\x00"}
	b.begins(1, 1, [3]int{4, 5, 2}, programs...)
	b.begins(2, 2, [3]int{3, 4, 3})
	b.begins(3, 2, [3]int{9, 7, 0}, programs...)
	k, _ := kern.New(16, 16, 8)
	k.Open(1, 1, [3]int{4, 5, 2})
	k.Open(2, 2, [3]int{3, 4, 3})
	k.Open(3, 2, [3]int{9, 7, 0})
	for _, env := range []int{1, 1, 2, 2, 2} {
		k.Do(env, kern.Call{What: kern.Bind, A: api.Slice})
	}
	if pictureOf(k) != pictureOf(b.w.Kernel()) {
		t.Errorf("%v, not %v", pictureOf(b.w.Kernel()), pictureOf(k))
	}
	for env, version := range []int{0, 1, 0, 2} {
		s := b.w.System(env)
		if (s != nil) != (version > 0) || b.w.Busy(env) {
			t.Fatalf("environment %d: %v", env, s)
		}
		if want, _ := sys.New(k, env, version, programs); s != nil && !identical(s.State(), want.State()) {
			t.Errorf("%v, not %v", s.State(), want.State())
		}
	}
	for env, quota := range [][3]int{{}, {4, 5, 2}, {3, 4, 3}, {9, 7, 0}} {
		for kind, n := range quota {
			for range n {
				k.Do(env, kern.Call{What: kern.Bind, A: kind + 1})
			}
			if r := k.Do(env, kern.Call{What: kern.Bind, A: kind + 1}); env > 0 && r.Err != api.ErrQuota {
				t.Errorf("environment %d, kind %d: %v", env, kind, r)
			}
		}
	}
}

func TestBeginWrong(t *testing.T) { // Begin: kern.Open's error, then upgrade.New's; nothing changes: who is open stays so
	long := strings.Repeat("\x00", api.MaxCode+1)
	b := start(t, 16, 16, 4)
	b.begins(1, 1, [3]int{4, 4, 1}, text(t, loop))
	b.begins(2, 1, [3]int{4, 4, 1})
	b.step(0, 1, 1, sys.Event{Kind: sys.Done, PID: 1, Call: 14, Result: 1}, 1)
	b.raw(2, kern.Call{What: kern.Bind, A: api.Frame}, kern.Reply{H: caps.Handle{Slot: 2, Gen: 1}})
	for _, programs := range [][]string{nil, {""}, {long}, make([]string, 9)} {
		begin := func(env, version int, quota [3]int, want api.Errno) {
			t.Helper()
			b.refuses(Op{What: Begin, Env: env, Version: version, Quota: quota, Programs: programs}, want)
		}
		right := [3]int{4, 4, 1}
		for _, env := range append([]int{0, 4}, far...) {
			begin(env, 1, right, api.ErrArg)
		}
		for _, version := range append([]int{0, 3, 257}, far...) {
			begin(3, version, right, api.ErrArg)
			begin(1, version, right, api.ErrArg)
		}
		begin(1, 1, right, api.ErrSame)
		begin(2, 2, [3]int{-1, 4, 1}, api.ErrSame)
		for i := range 3 {
			less, more := right, right
			less[i], more[i] = -1, 9
			begin(3, 1, less, api.ErrArg)
			begin(3, 2, more, api.ErrFull)
			less[i], more[i] = math.MinInt, math.MaxInt
			begin(3, 1, less, api.ErrArg)
			begin(3, 2, more, api.ErrFull)
		}
	}
	for version := 1; version <= 2; version++ {
		b.refuses(Op{What: Begin, Env: 3, Version: version, Quota: [3]int{8, 8, 2}, Programs: make([]string, 9)}, api.ErrArg)
		b.refuses(Op{What: Begin, Env: 3, Version: version, Quota: [3]int{8, 8, 2}, Programs: []string{"", long}}, api.ErrLong)
	}
	b.begins(3, 2, [3]int{8, 8, 2}, slices.Repeat([]string{long[1:]}, 8)...)
	b.step(1, 2, 1, sys.Event{}, 0)
	b.sound()
}

func TestBeginThatFailsLeavesNothing(t *testing.T) { // R4: what is bound later has the handles that it would have
	b, c := start(t, 16, 16, 4), start(t, 16, 16, 4)
	for range 3 {
		b.refuses(Op{What: Begin, Env: 1, Version: 1, Quota: [3]int{4, 4, 2}, Programs: make([]string, 9)}, api.ErrArg)
		b.refuses(Op{What: Begin, Env: 1, Version: 1, Quota: [3]int{17, 4, 2}}, api.ErrFull)
	}
	for _, x := range []*box{b, c} {
		x.begins(1, 1, [3]int{4, 4, 2})
		x.raw(1, kern.Call{What: kern.Bind, A: api.Frame}, kern.Reply{H: caps.Handle{Slot: 2, Gen: 1}})
	}
	if pictureOf(b.w.Kernel()) != pictureOf(c.w.Kernel()) {
		t.Error("something is left")
	}
}

func TestManySlices(t *testing.T) { // Begin: of slices it may have no more than it can pay for; none are a right quota, too
	for _, programs := range [][]string{nil, {"\x14\x0e"}} {
		b := start(t, 8, 8, 64)
		b.begins(1, 1, [3]int{1, 1, 50}, programs...)
		b.begins(2, 1, [3]int{1, 1, 0}, programs...)
		k := b.w.Kernel()
		if n := len(k.List(1, api.Slice)); n != 42 || k.Spare() != [3]int{8, 8, 22} {
			t.Errorf("%d slices", n)
		}
		if r := k.Do(1, kern.Call{What: kern.Bind, A: api.Frame}); r.Err != api.ErrFull {
			t.Errorf("%v", r)
		}
		b.does(Op{What: Turn, N: 42}, Reply{})
	}
}

func TestProgramsAreNotKept(t *testing.T) { // R3: nor changed
	b := start(t, 8, 8, 4)
	programs := []string{text(t, loop), ""}
	was := slices.Clone(programs)
	b.begins(1, 1, [3]int{4, 4, 1}, programs...)
	if !slices.Equal(programs, was) {
		t.Error("programs have changed")
	}
	clear(programs)
	b.does(Op{What: Ask, Env: 1, Wish: wish()}, Reply{})
	for range 6 {
		b.w.Do(Op{What: Turn})
	}
	b.step(0, 1, 1, sys.Event{Kind: sys.Done, PID: 1, Call: 14, Result: 1}, 2)
}

func TestEnd(t *testing.T) { // End: kern.Close; its manager is gone; others go on; it may begin anew
	b := start(t, 16, 16, 4)
	for env := 1; env <= 2; env++ {
		b.begins(env, 1, [3]int{4, 4, 1}, text(t, loop))
	}
	b.begins(3, 1, [3]int{4, 4, 1})
	for n := range 18 {
		b.w.Do(Op{What: Turn, N: n % 3, PID: 1})
	}
	b.raw(3, kern.Call{What: kern.Bind, A: api.Frame}, kern.Reply{N: 2, H: caps.Handle{Slot: 5, Gen: 1}})
	other := b.w.System(2)
	b.does(Op{What: Ask, Env: 1, Wish: wish()}, Reply{})
	for range 5 {
		b.w.Do(Op{What: Turn})
	}
	was := pictureOf(b.w.Kernel())
	b.does(Op{What: End, Env: 1}, Reply{})
	if b.w.System(1) != nil || b.w.Busy(1) || b.w.System(2) != other {
		t.Error("another system")
	}
	for _, kind := range []int{api.Frame, api.Slice} {
		was.bound[kind][0] = resource{}
		was.spare[kind-1]++
	}
	was.versions[1] = 0
	for n := range was.turns {
		if was.turns[n] == 1 {
			was.turns[n] = 0
		}
	}
	if now := pictureOf(b.w.Kernel()); now != was {
		t.Errorf("%v, not %v", now, was)
	}
	b.does(Op{What: Turn}, Reply{})
	b.refuses(Op{What: Ask, Env: 1, Wish: wish()}, api.ErrNone)
	b.begins(1, 2, [3]int{4, 4, 1})
	b.does(Op{What: Turn, PID: 1}, Reply{Env: 1})
	b.does(Op{What: End, Env: 1}, Reply{})
	b.begins(1, 1, [3]int{4, 4, 1}, text(t, loop))
	b.step(0, 1, 1, sys.Event{Kind: sys.Done, PID: 1, Call: 14, Result: 1}, 1)
	b.sound()
	for env := 1; env <= 3; env++ {
		b.does(Op{What: End, Env: env}, Reply{})
	}
	if b.w.Kernel().Spare() != [3]int{16, 16, 4} {
		t.Errorf("spare: %v", b.w.Kernel().Spare())
	}
}

func TestEndWrong(t *testing.T) { // End: ErrNone
	b := start(t, 16, 16, 4)
	b.begins(1, 1, [3]int{4, 4, 1}, text(t, loop))
	for _, env := range append([]int{0, 2, 3, 4, 257}, far...) {
		b.refuses(Op{What: End, Env: env}, api.ErrNone)
	}
	b.does(Op{What: End, Env: 1}, Reply{})
	b.refuses(Op{What: End, Env: 1}, api.ErrNone)
}

func TestTurn(t *testing.T) { // Turn: whose the turn is; a slice of its manager; nothing besides, if it has none, or it is nobody's
	b := start(t, 16, 16, 5)
	b.begins(1, 1, [3]int{4, 4, 2}, text(t, loop))
	b.begins(2, 1, [3]int{4, 4, 1})
	b.begins(3, 2, [3]int{4, 4, 1}, "\x14\x0e", "\x14\x0e")
	for _, n := range []int{2, 7, -3, 5<<40 + 2} {
		b.does(Op{What: Turn, N: n, PID: 1}, Reply{Env: 2})
	}
	b.does(Op{What: Turn, N: -1, PID: 1}, Reply{})
	b.does(Op{What: Turn, N: 4}, Reply{})
	b.step(0, 1, 1, sys.Event{Kind: sys.Done, PID: 1, Call: 14, Result: 1}, 1)
	b.step(6, 1, 1, sys.Event{Kind: sys.Ran, PID: 1}, 1)
	b.step(-4, 1, 1, sys.Event{Kind: sys.Ran, PID: 1}, 1)
	b.step(8, 3, 1, sys.Event{Kind: sys.Done, PID: 1, Call: 14, Result: 1}, 2)
	b.step(3, 3, 1, sys.Event{Kind: sys.Exited, PID: 1, Result: 132}, 2)
	for _, pid := range append([]int{0, 2, 6, 7}, far...) {
		b.step(1, 1, pid, sys.Event{PID: pid}, 1)
		b.does(Op{What: Turn, N: 2, PID: pid}, Reply{Env: 2})
		b.does(Op{What: Turn, N: 4, PID: pid}, Reply{})
	}
	for _, n := range far {
		env := b.w.Kernel().Turn(n)
		if r := b.w.Do(Op{What: Turn, N: n, PID: 7}); r.Env != env || r.Err != api.OK {
			t.Errorf("turn %d: %v, not of %d", n, r, env)
		}
	}
	b.raw(2, kern.Call{What: kern.Upcall}, kern.Reply{Err: api.ErrState})
}

func TestChange(t *testing.T) { // Ask, Fail: the manager's answer; then its turns are phases, whichever slice it has, and others' are steps
	b := start(t, 16, 16, 5)
	b.begins(1, 1, [3]int{4, 4, 2}, text(t, loop))
	b.begins(2, 1, [3]int{4, 4, 1}, text(t, loop))
	for range 4 {
		b.w.Do(Op{What: Turn, PID: 1})
	}
	old := b.w.System(1)
	view := abs.Of(old)
	w := wish()
	w.Tries = 2
	for phase := upgrade.Snapshot; phase <= upgrade.Commit; phase++ {
		b.does(Op{What: Fail, Env: 1, N: phase}, Reply{})
	}
	b.does(Op{What: Ask, Env: 1, Wish: w}, Reply{})
	b.refuses(Op{What: Ask, Env: 1, Wish: w}, api.ErrState)
	if !b.w.Busy(1) || b.w.Busy(2) {
		t.Error("Busy")
	}
	phase, tries := upgrade.Snapshot, 0
	for i := 0; b.w.System(1) == old; i++ {
		r := upgrade.Report{Phase: phase, Attempt: 1 + tries%2, Version: 1}
		if phase == tries+1 {
			r.Err, phase, tries = api.ErrFail, 0, tries+1
		}
		if phase == upgrade.Commit {
			r.Version = 2
		}
		b.does(Op{What: Turn, N: i % 2, PID: i}, Reply{Env: 1, Report: r})
		b.step(2, 2, 1, []sys.Event{{Kind: sys.Done, PID: 1, Call: 14, Result: 1}, {Kind: sys.Ran, PID: 1}, {Kind: sys.Ran, PID: 1}, {Kind: sys.Ran, PID: 1}}[i%4], 1)
		phase++
		if !b.w.Busy(1) && b.w.System(1) == old {
			b.does(Op{What: Ask, Env: 1, Wish: w}, Reply{})
		}
	}
	if b.w.Busy(1) || !abs.Same(view, abs.Of(b.w.System(1))) || tries != 6 {
		t.Errorf("%v", b.w.System(1).State())
	}
	b.refuses(Op{What: Ask, Env: 1, Wish: w}, api.ErrState)
	b.step(0, 1, 1, sys.Event{Kind: sys.Done, PID: 1, Call: 14, Result: 1}, 2)
	b.sound()
}

func TestAskWrong(t *testing.T) { // Ask, Fail: ErrNone, if it has no manager, whatever is asked for; else the manager's error
	b := start(t, 16, 16, 5)
	b.begins(1, 1, [3]int{4, 4, 2}, text(t, loop))
	b.begins(2, 2, [3]int{4, 4, 1})
	for _, env := range append([]int{0, 2, 3, 4, 257}, far...) {
		for _, w := range []upgrade.Wish{wish(), {}, {Tries: 6}, {Tries: 1, Space: -1}} {
			b.refuses(Op{What: Ask, Env: env, Wish: w}, api.ErrNone)
		}
		for _, n := range append([]int{0, 1, 6, 7}, far...) {
			b.refuses(Op{What: Fail, Env: env, N: n}, api.ErrNone)
		}
	}
	for _, n := range append([]int{0, 7}, far...) {
		b.refuses(Op{What: Fail, Env: 1, N: n}, api.ErrArg)
	}
	for _, w := range []upgrade.Wish{{}, {Script: snap.Script, Tries: 6}, {Tries: 1, Space: -1}} {
		b.refuses(Op{What: Ask, Env: 1, Wish: w}, api.ErrArg)
	}
}

func TestRaw(t *testing.T) { // Raw: the kernel's call, of that environment; its Err is told twice
	b := start(t, 16, 16, 5)
	b.begins(1, 1, [3]int{2, 2, 1})
	b.begins(2, 1, [3]int{2, 2, 1})
	frame, block := caps.Handle{Slot: 2, Gen: 1}, caps.Handle{Slot: 3, Gen: 1}
	b.raw(1, kern.Call{What: kern.Bind, A: api.Frame}, kern.Reply{H: frame})
	b.raw(2, kern.Call{What: kern.Bind, A: api.Block}, kern.Reply{H: block})
	b.raw(1, kern.Call{What: kern.Set, H: frame, A: 3, B: 7}, kern.Reply{})
	b.raw(1, kern.Call{What: kern.Get, H: frame, A: 3}, kern.Reply{N: 7})
	b.raw(2, kern.Call{What: kern.Get, H: frame, A: 3}, kern.Reply{Err: api.ErrStale})
	b.raw(2, kern.Call{What: kern.Write, H: block, S: "abcdefgh"}, kern.Reply{})
	b.raw(2, kern.Call{What: kern.Read, H: block}, kern.Reply{S: "abcdefgh"})
	b.raw(2, kern.Call{What: kern.Read, H: frame}, kern.Reply{Err: api.ErrStale})
	b.raw(1, kern.Call{What: kern.Share, H: frame, A: 2, B: caps.Use}, kern.Reply{H: caps.Handle{Slot: 4, Gen: 1}})
	b.raw(2, kern.Call{What: kern.Get, H: caps.Handle{Slot: 4, Gen: 1}, A: 3}, kern.Reply{N: 7})
	b.raw(1, kern.Call{What: kern.Revoke, H: frame}, kern.Reply{N: 1})
	b.raw(1, kern.Call{What: kern.Send, A: 2, B: 500}, kern.Reply{})
	b.raw(2, kern.Call{What: kern.Receive}, kern.Reply{N: 65536 + 500})
	b.raw(2, kern.Call{What: kern.Receive}, kern.Reply{Err: api.ErrNone})
	b.raw(2, kern.Call{What: kern.Upcall}, kern.Reply{N: 3*65536 + 1})
	for _, what := range append([]int{0, 15}, far...) {
		b.raw(1, kern.Call{What: what}, kern.Reply{Err: api.ErrArg})
	}
	b.raw(1, kern.Call{What: kern.Free, H: frame}, kern.Reply{})
	if b.w.Kernel().Spare() != [3]int{16, 15, 3} {
		t.Errorf("spare: %v", b.w.Kernel().Spare())
	}
}

func TestRawWrong(t *testing.T) { // Raw: ErrState, if it has a manager, whatever is called; the kernel's ErrNone, if it is not open
	b := start(t, 16, 16, 5)
	b.begins(1, 1, [3]int{2, 2, 1}, text(t, loop))
	for range 4 {
		b.w.Do(Op{What: Turn, PID: 1})
	}
	root := b.w.Kernel().Root(api.Frame, 0)
	for what := range 16 {
		b.refuses(Op{What: Raw, Env: 1, Call: kern.Call{What: what, A: 1, H: root}}, api.ErrState)
		for _, env := range append([]int{0, 2, 3, 4, 257}, far...) {
			b.raw(env, kern.Call{What: what, A: 1, H: root}, kern.Reply{Err: api.ErrNone})
		}
	}
	b.does(Op{What: End, Env: 1}, Reply{})
	b.raw(1, kern.Call{What: kern.Bind, A: 1}, kern.Reply{Err: api.ErrNone})
	b.begins(1, 1, [3]int{2, 2, 1})
	b.raw(1, kern.Call{What: kern.Get, H: root}, kern.Reply{Err: api.ErrStale})
}

func TestFieldsThatAreNotNamed(t *testing.T) { // they count for nothing
	b, c := start(t, 16, 16, 5), start(t, 16, 16, 5)
	for i, o := range []Op{
		{What: Begin, Env: 1, Version: 1, Quota: [3]int{4, 4, 2}, Programs: []string{text(t, loop)}},
		{What: Begin, Env: 2, Version: 2, Quota: [3]int{4, 4, 1}},
		{What: Turn, N: 1, PID: 1},
		{What: Fail, Env: 1, N: 2},
		{What: Ask, Env: 1, Wish: upgrade.Wish{Script: snap.Script, Tries: 2, Space: 4000}},
		{What: Turn, N: 1, PID: 1}, {What: Turn, PID: 1}, {What: Turn, N: 1, PID: 1}, {What: Turn, N: 5, PID: 1},
		{What: Turn, N: 2, PID: 1}, {What: Turn, N: 3, PID: 1},
		{What: Raw, Env: 2, Call: kern.Call{What: kern.Bind, A: api.Frame}},
		{What: Raw, Env: 1, Call: kern.Call{What: kern.Bind, A: api.Frame}},
		{What: End, Env: 2},
		{What: 9},
	} {
		more := o
		bad := upgrade.Wish{Tries: -1, Space: -1}
		switch o.What {
		case Begin:
			more.N, more.PID, more.Wish, more.Call = -1, -1, bad, kern.Call{What: 99}
		case Turn:
			more.Env, more.Version, more.Quota, more.Programs, more.Wish, more.Call = 2, 9, [3]int{-1, -1, -1}, make([]string, 9), bad, kern.Call{What: 99}
		case Fail:
			more.PID, more.Version, more.Quota, more.Programs, more.Wish, more.Call = -1, 9, [3]int{-1, -1, -1}, make([]string, 9), bad, kern.Call{What: 99}
		case Ask:
			more.N, more.PID, more.Version, more.Quota, more.Programs, more.Call = -1, -1, 9, [3]int{-1, -1, -1}, make([]string, 9), kern.Call{What: 99}
		case Raw:
			more.N, more.PID, more.Version, more.Quota, more.Programs, more.Wish = -1, -1, 9, [3]int{-1, -1, -1}, make([]string, 9), bad
		case End:
			more.N, more.PID, more.Version, more.Quota, more.Programs, more.Wish, more.Call = -1, -1, 9, [3]int{-1, -1, -1}, make([]string, 9), bad, kern.Call{What: 99}
		default:
			more.Env, more.Version, more.Programs, more.Wish = 1, 1, []string{""}, wish()
		}
		if r, x := b.w.Do(o), c.w.Do(more); r != x {
			t.Errorf("operation %d: %v, not %v", i, x, r)
		}
		if pictureOf(b.w.Kernel()) != pictureOf(c.w.Kernel()) {
			t.Errorf("operation %d: %v, not %v", i, pictureOf(c.w.Kernel()), pictureOf(b.w.Kernel()))
		}
	}
}

func TestNoWorld(t *testing.T) { // Do ErrState, nothing else; a zero one does nothing, either
	var w *World
	for range 2 {
		for what := -1; what <= 8; what++ {
			for _, env := range []int{1, 4} {
				if r := w.Do(Op{What: what, Env: env, N: 1, Version: 1, Programs: []string{""}, Wish: wish()}); r != (Reply{Err: api.ErrState}) {
					t.Errorf("%v", r)
				}
				zero := &World{}
				if r := zero.Do(Op{What: what, Env: env, N: 1, Version: 1, Programs: []string{""}, Wish: wish()}); r.Err == api.OK && r != (Reply{}) {
					t.Errorf("%v", r)
				}
				if zero.System(env) != nil || zero.Busy(env) || zero.Kernel() != nil {
					t.Error("a world")
				}
			}
		}
		for _, env := range append([]int{0, 1, 2, 3, 4}, far...) {
			if w.System(env) != nil || w.Busy(env) || w.Kernel() != nil {
				t.Error("a world")
			}
		}
	}
}

func TestSystem(t *testing.T) { // 34.2: of an environment's own manager; nil and false of others
	b := start(t, 16, 16, 6)
	for env := 1; env <= 3; env++ {
		b.begins(env, 1, [3]int{4, 4, 2}, text(t, loop))
	}
	if b.w.System(1) == b.w.System(2) || b.w.System(2) == b.w.System(3) || b.w.System(3) == b.w.System(1) {
		t.Error("one system")
	}
	b.does(Op{What: Ask, Env: 3, Wish: wish()}, Reply{})
	if b.w.Busy(1) || b.w.Busy(2) || !b.w.Busy(3) {
		t.Error("Busy")
	}
	for _, env := range append([]int{0, 4, 257}, far...) {
		if b.w.System(env) != nil || b.w.Busy(env) {
			t.Errorf("environment %d has a system", env)
		}
	}
	k := b.w.Kernel()
	if k != b.w.Kernel() || len(k.List(2, api.Slice)) != 2 {
		t.Error("another kernel")
	}
	if !rest.Right(b.w.System(1), b.w.System(2)) {
		t.Error("systems that began alike are not alike")
	}
}
