package sys

import (
	"math"
	"slices"
	"strings"
	"testing"

	"imago/api"
	"imago/areas"
	"imago/desc"
	"imago/files"
	"imago/kern"
	"imago/opens"
	"imago/pages"
	"imago/pipes"
	"imago/spans"
)

// first is the state of a system at its beginning.
func first(version int) State {
	st := State{Version: version, Procs: []Proc{{PID: 1}}}
	if version == 1 {
		st.Desc = []desc.Entry{{PID: 1, Slot: 0, Kind: 1}, {PID: 1, Slot: 1, Kind: 1}}
		st.Areas = []areas.Area{{PID: 1, First: 0, Count: 4}}
		return st
	}
	st.Opens = []opens.Open{{ID: 0, Kind: 1}, {ID: 1, Kind: 1}}
	st.Slots = []opens.Slot{{PID: 1, Slot: 0, Open: 0}, {PID: 1, Slot: 1, Open: 1}}
	st.Spans = []spans.Span{{PID: 1, First: 0, Count: 4, Prot: 3}}
	return st
}

func TestKinds(t *testing.T) { // the chapter's numbers
	for want, kind := range []int{Idle, Ran, Done, Blocked, Exited} {
		if kind != want {
			t.Errorf("%d, not %d", kind, want)
		}
	}
}

func TestNew(t *testing.T) { // 28.1, 28.2: process 1 of program 0, registers 0, 4 pages, two Consoles, each with a place of its own; no frame and no block
	versions(t, func(t *testing.T, version int) {
		b := boxOf(t, version, 2, 2, "", "\x00")
		if st := b.s.State(); !alike(st, first(version)) {
			t.Errorf("State: %v", st)
		}
		if m := b.s.Memory(1); m != string(make([]byte, 256)) {
			t.Errorf("Memory: %q", m)
		}
		if b.k.Spare() != [3]int{39, 39, 4} {
			t.Errorf("Spare: %v", b.k.Spare())
		}
		for range 2 { // systems are apart
			c := boxOf(t, version, 2, 2, "\x00")
			c.ends(1, 0)
			if st := b.s.State(); !alike(st, first(version)) {
				t.Errorf("State: %v", st)
			}
		}
	})
}

func TestNewWrong(t *testing.T) { // 28.1, R1, R4: ErrArg of the version, or of how many programs there are; ErrLong; no system
	long := strings.Repeat("\x00", 257)
	eight := make([]string, 8)
	k := machine(t, 1, 2, 2)
	for _, c := range []struct {
		version  int
		programs []string
		want     api.Errno
	}{
		{0, eight, api.ErrArg}, {3, eight, api.ErrArg}, {-1, eight, api.ErrArg}, {math.MaxInt, eight, api.ErrArg}, {math.MinInt, nil, api.ErrArg},
		{1, nil, api.ErrArg}, {2, nil, api.ErrArg}, {1, []string{}, api.ErrArg}, {2, make([]string, 9), api.ErrArg}, {1, make([]string, 1<<20), api.ErrArg},
		{1, []string{long}, api.ErrLong}, {2, append(eight[:7:7], long), api.ErrLong}, {1, []string{"", long, ""}, api.ErrLong}, {2, []string{strings.Repeat("a", 1<<20)}, api.ErrLong},
		{0, []string{long}, api.ErrArg}, {3, make([]string, 9), api.ErrArg}, {1, append(make([]string, 8), long), api.ErrArg}, {2, append([]string{long}, eight...), api.ErrArg},
	} {
		for range 2 {
			if s, e := New(k, 1, c.version, c.programs); s != nil || e != c.want {
				t.Errorf("New(%d, %d programs): %v, %v, not %v", c.version, len(c.programs), s, e, c.want)
			}
			st := first(1)
			st.Version = c.version
			if c.version == 2 {
				st = first(2)
			}
			if s, e := Load(k, 1, c.programs, st); s != nil || e != c.want {
				t.Errorf("Load(%d, %d programs): %v, %v, not %v", c.version, len(c.programs), s, e, c.want)
			}
			st.Procs = []Proc{{PID: 9}} // what is wrong with programs and version comes ahead of that
			if s, e := Load(k, 1, c.programs, st); s != nil || e != c.want {
				t.Errorf("Load(%d, %d programs): %v, %v, not %v", c.version, len(c.programs), s, e, c.want)
			}
		}
	}
}

func TestPrograms(t *testing.T) { // 28.1, R3: from 1 to 8 of them, of MaxCode bytes at most; they are not kept as they are handed in
	versions(t, func(t *testing.T, version int) {
		for n := 1; n <= 8; n++ {
			var l []string
			for i := range n {
				l = append(l, strings.Repeat("\x02\x00", 127)+"\x14"+string(rune(i))) // the call i, at 254
			}
			k := machine(t, version, 2, 2)
			s, e := New(k, 1, version, l)
			if e != api.OK {
				t.Fatal(e)
			}
			x, e := Load(k, 1, l, first(version))
			if e != api.OK {
				t.Fatal(e)
			}
			clear(l)
			for _, one := range []*System{s, x} {
				for range 127 {
					if e := one.Step(1); e != (Event{Kind: Ran, PID: 1}) {
						t.Fatal(e)
					}
				}
				if e := one.Step(1); e != (Event{Kind: Done, PID: 1, Call: 0, Result: tellCall}) {
					t.Fatal(e)
				}
				if e := one.Step(1); e != (Event{Kind: Exited, PID: 1, Result: 132}) {
					t.Fatal(e)
				}
			}
		}
	})
}

func TestNoKernel(t *testing.T) { // without a kernel, or of an environment that is not open: a system that gets no frame and no block
	versions(t, func(t *testing.T, version int) {
		programs := append(halves(), text(t, "set r1 1, store r1 r1"))
		for _, env := range []int{1, 3, 0, -1, math.MaxInt} {
			k := machine(t, version, 2, 2)
			if env == 1 {
				k = nil
			}
			s, e := New(k, env, version, programs)
			if s == nil || e != api.OK || !alike(s.State(), first(version)) || len(s.Memory(1)) != 256 {
				t.Fatalf("New: %v, %v", s, e)
			}
			st := s.State()
			st.Procs[0].CPU.PC = 10 // open, then write
			st.Procs[0].CPU.R[3] = 1
			s, _ = Load(k, env, programs, st)
			if e := s.Step(1); e.Result != 2 {
				t.Error(e)
			}
			st = s.State()
			st.Procs[0].CPU.PC, st.Procs[0].CPU.R[1] = 16, 2
			s, _ = Load(k, env, programs, st)
			if e := s.Step(1); e != (Event{Kind: Done, PID: 1, Call: 8, Result: tellFull}) {
				t.Error(e)
			}
			st.Procs[0].CPU, st.Procs[0].Program = api.CPU{}, 2
			s, _ = Load(k, env, programs, st)
			if e := s.Step(1); e.Kind != Ran {
				t.Error(e)
			}
			if e := s.Step(1); e != (Event{Kind: Exited, PID: 1, Result: 137}) {
				t.Error(e)
			}
		}
	})
}

func TestState(t *testing.T) { // 28.2: all tables, Procs rising, all else as the layers tell it; of the other version's none
	versions(t, func(t *testing.T, version int) {
		b := callBox(t, version)
		b.does(1, 2, 2)       // fork
		b.does(1, 2, 3)       // fork
		b.does(3, 5, 2, 3, 0) // open
		b.does(2, 9, 770)     // pipe
		b.does(1, 12, 64, 2)  // map
		b.does(3, 12, 64, 1)
		b.writes(1, 70, "abc")
		b.writes(3, 0, "xyz")
		b.does(3, 8, 3, 2, 0, 3)
		b.does(2, 8, 2, 3, 0, 2)
		b.exits(2, 5)
		st := b.s.State()
		var cpus []api.CPU
		for i := range st.Procs {
			cpus = append(cpus, st.Procs[i].CPU)
			st.Procs[i].CPU = api.CPU{}
		}
		want := State{
			Version: version,
			Procs:   []Proc{{PID: 1}, {PID: 2, Parent: 1, Ended: true, Status: 5}, {PID: 3, Parent: 1}},
			Files:   []files.Info{{ID: 3, Size: 3, Blocks: []int{1}}},
			Pages:   []pages.Entry{{PID: 1, Page: 4, Frame: 1}, {PID: 3, Page: 0, Frame: 2}},
		}
		if version == 1 {
			want.Desc = []desc.Entry{{PID: 1, Slot: 0, Kind: 1}, {PID: 1, Slot: 1, Kind: 1}, {PID: 3, Slot: 0, Kind: 1}, {PID: 3, Slot: 1, Kind: 1}, {PID: 3, Slot: 2, Kind: 2, Obj: 3, Off: 3}}
			want.Areas = []areas.Area{{PID: 1, First: 0, Count: 4}, {PID: 3, First: 0, Count: 4}, {PID: 1, First: 4, Count: 2}, {PID: 3, First: 4, Count: 1}}
		} else {
			want.Opens = []opens.Open{{ID: 0, Kind: 1}, {ID: 1, Kind: 1}, {ID: 2, Kind: 2, Obj: 3, Off: 3}}
			want.Slots = []opens.Slot{{PID: 1, Slot: 0, Open: 0}, {PID: 1, Slot: 1, Open: 1}, {PID: 3, Slot: 0, Open: 0}, {PID: 3, Slot: 1, Open: 1}, {PID: 3, Slot: 2, Open: 2}}
			want.Spans = []spans.Span{{PID: 1, First: 0, Count: 4, Prot: 3}, {PID: 1, First: 4, Count: 2, Prot: 3}, {PID: 3, First: 0, Count: 4, Prot: 3}, {PID: 3, First: 4, Count: 1, Prot: 3}}
		}
		if !alike(st, want) {
			t.Errorf("State: %v, not %v", st, want)
		}
		if cpus[0].R != [8]uint16{64, 2, 9, 9, 4, 5, 6, 7} || cpus[0].PC != 26 || cpus[2].R != [8]uint16{3, 2, 0, 3, 4, 5, 6, 7} || cpus[2].PC != 18 {
			t.Errorf("CPUs: %v", cpus)
		}
	})
}

func TestMemory(t *testing.T) { // 28.2: all bytes of a process's addresses; empty, if it is not alive
	versions(t, func(t *testing.T, version int) {
		b := callBox(t, version)
		b.does(1, 2, 2)
		b.does(1, 12, 64, 12)
		b.writes(1, 0, "a")
		b.writes(1, 250, "bcdefg")
		b.writes(2, 15, "hi")
		for range 2 {
			if m := b.s.Memory(1); m != "a"+string(make([]byte, 249))+"bcdefg" {
				t.Errorf("Memory: %q", m)
			}
			if m := b.s.Memory(2); m != string(make([]byte, 15))+"hi"+string(make([]byte, 239)) {
				t.Errorf("Memory: %q", m)
			}
		}
		for _, pid := range append([]int{3, 4, 5, 6}, noProcs...) {
			if m := b.s.Memory(pid); m != "" {
				t.Errorf("Memory(%d): %q", pid, m)
			}
		}
		b.exits(2, 0)
		if m := b.s.Memory(2); m != "" {
			t.Errorf("Memory: %q", m)
		}
	})
}

func TestFile(t *testing.T) { // 28.2: all bytes of a file; files.Read's errors, with nothing
	versions(t, func(t *testing.T, version int) {
		b := callBox(t, version)
		for id := range 4 {
			if s, e := b.s.File(id); s != "" || e != api.ErrNone {
				t.Errorf("File(%d): %q, %v", id, s, e)
			}
		}
		for _, id := range append([]int{4, 5}, far...) {
			if s, e := b.s.File(id); s != "" || e != api.ErrArg {
				t.Errorf("File(%d): %q, %v", id, s, e)
			}
		}
		all := "0123456789abcdefghijklmnopqrstuv"
		b.writes(1, 0, all)
		for id := range 4 {
			b.does(1, 5, 2+id, id, 0)
			b.file(id, "")
		}
		b.does(1, 8, 16, 4, 0, 16)
		b.file(2, all[:16])
		b.does(1, 8, 16, 4, 16, 16)
		b.does(1, 8, 5, 5, 3, 5)
		b.file(2, all)
		b.file(3, all[3:8])
		b.file(0, "")
		b.file(1, "")
	})
}

func TestNilSystem(t *testing.T) { // Step Idle, with the PID, File ErrNone (ErrArg first); nothing; R4, R6
	var none *System
	for _, s := range []*System{none, {}} {
		for range 2 {
			for _, pid := range append([]int{1, 2, 3, 4, 5, 6}, noProcs...) {
				if e := s.Step(pid); e != (Event{Kind: Idle, PID: pid}) {
					t.Errorf("Step(%d): %v", pid, e)
				}
				if m := s.Memory(pid); m != "" {
					t.Errorf("Memory(%d): %q", pid, m)
				}
			}
			if st := s.State(); !alike(st, State{}) {
				t.Errorf("State: %v", st)
			}
			for id := range 4 {
				if f, e := s.File(id); f != "" || e != api.ErrNone {
					t.Errorf("File(%d): %q, %v", id, f, e)
				}
			}
			for _, id := range append([]int{4, 5}, far...) {
				if f, e := s.File(id); f != "" || e != api.ErrArg {
					t.Errorf("File(%d): %q, %v", id, f, e)
				}
			}
		}
	}
}

// family is a box of a system with some of all: processes 1, 2 and 4 are alive, 3 and 5 have ended; files 0 and 2, pipes 0 and 2; frames are shared.
func family(t *testing.T, version int) *box {
	t.Helper()
	b := callBox(t, version)
	b.writes(1, 0, "abcdefghijklmnopqrstuvwxyz")
	b.does(1, 12, 64, 2)
	for pid := 2; pid <= 5; pid++ {
		b.does(1, 2, pid)
	}
	b.does(1, 5, 2, 0, 0)
	b.does(1, 8, 9, 2, 0, 9)
	for i, pid := range []int{2, 4, 4} { // pipes 0, 1, 2
		b.does(pid, 9, []int{770, 770, 1284}[i])
	}
	b.does(2, 8, 4, 3, 0, 4)
	b.does(4, 6, 0, 2)
	b.does(4, 6, 0, 3)
	b.does(4, 5, 2, 2, 0)
	b.writes(4, 70, "z")
	b.does(4, 8, 2, 2, 69, 2)
	b.does(4, 6, 0, 4) // pipe 2 has a Writer alone
	for pid, status := range map[int]int{3: 255, 5: 0} {
		b.exits(pid, status)
	}
	return b
}

func TestLoadOfState(t *testing.T) { // 28.3, 28.6: the same system, which goes on as the other one would; nothing of the machine changes
	versions(t, func(t *testing.T, version int) {
		b, c := family(t, version), family(t, version)
		st, bytes, spare := b.s.State(), b.memory(), b.k.Spare()
		for range 3 {
			b.loads(func(*State) {})
			if !alike(b.s.State(), st) || b.memory() != bytes || b.k.Spare() != spare {
				t.Fatalf("State: %v, not %v", b.s.State(), st)
			}
		}
		for i := range 300 {
			pid, n := 1+i%6, 2+i*7%17
			args := [3]uint16{uint16(i % 7), uint16(i % 60), uint16(i % 5)}
			for _, x := range []*box{b, c} {
				x.sets(pid, func(p *Proc) { p.CPU.PC, p.CPU.R[1], p.CPU.R[2], p.CPU.R[3] = uint16(n*2), args[0], args[1], args[2] })
			}
			b.loads(func(*State) {})
			b.is(b.step(pid), c.step(pid))
			if !alike(b.s.State(), c.s.State()) || b.memory() != c.memory() {
				t.Fatalf("State: %v, not %v", b.s.State(), c.s.State())
			}
		}
	})
}

func TestLoadAnyOrder(t *testing.T) { // 28.2, 28.3: processes, files, pipes, pages and descriptors may stand in any order; State has them rising
	versions(t, func(t *testing.T, version int) {
		b := family(t, version)
		want := b.s.State()
		b.loads(func(st *State) {
			slices.Reverse(st.Procs)
			slices.Reverse(st.Files)
			slices.Reverse(st.Pipes)
			slices.Reverse(st.Pages)
			slices.Reverse(st.Desc)
			slices.Reverse(st.Opens)
			slices.Reverse(st.Slots)
		})
		if st := b.s.State(); !alike(st, want) {
			t.Errorf("State: %v, not %v", st, want)
		}
	})
}

func TestLoadOfNothing(t *testing.T) { // 28.3: a system without processes; its files stay
	versions(t, func(t *testing.T, version int) {
		b := family(t, version)
		for _, pid := range []int{1, 2, 4} {
			b.exits(pid, 0)
		}
		st := b.s.State()
		if len(st.Procs)+len(st.Pipes)+len(st.Pages)+len(st.Desc)+len(st.Areas)+len(st.Opens)+len(st.Slots)+len(st.Spans) != 0 || len(st.Files) != 2 {
			t.Errorf("State: %v", st)
		}
		s, e := Load(machine(t, version, 1, 1), 1, []string{""}, State{Version: version})
		if e != api.OK || !alike(s.State(), State{Version: version}) {
			t.Errorf("Load: %v, %v", e, s)
		}
	})
}

func TestLoadKeepsNothing(t *testing.T) { // R3: what is handed in is not changed and not kept; what is answered is its caller's; spare room too
	versions(t, func(t *testing.T, version int) {
		b := family(t, version)
		want := b.s.State()
		wipe := func(st State) {
			clear(st.Procs[:cap(st.Procs)])
			for _, i := range st.Files {
				clear(i.Blocks[:cap(i.Blocks)])
			}
			clear(st.Files[:cap(st.Files)])
			clear(st.Pipes[:cap(st.Pipes)])
			clear(st.Pages[:cap(st.Pages)])
			clear(st.Desc[:cap(st.Desc)])
			clear(st.Areas[:cap(st.Areas)])
			clear(st.Opens[:cap(st.Opens)])
			clear(st.Slots[:cap(st.Slots)])
			clear(st.Spans[:cap(st.Spans)])
		}
		wipe(b.s.State())
		if st := b.s.State(); !alike(st, want) {
			t.Fatalf("State: %v, not %v", st, want)
		}
		handed := b.s.State()
		s, e := Load(b.k, 1, b.programs, handed)
		if e != api.OK || !alike(handed, want) {
			t.Fatalf("Load: %v, changed %v to %v", e, want, handed)
		}
		wipe(handed)
		if st := s.State(); !alike(st, want) {
			t.Fatalf("State: %v, not %v", st, want)
		}
		b.s = s
		handed = b.s.State()
		b.does(1, 5, 3, 1, 0)
		b.writes(2, 0, "new")
		b.exits(4, 0)
		if !alike(handed, want) {
			t.Errorf("State: %v, not %v", handed, want)
		}
	})
}

// noLoad wants that Load tells ErrForm of a state that is changed so, and no system.
func (b *box) noLoad(what string, change func(st *State)) {
	b.t.Helper()
	st := b.s.State()
	change(&st)
	for range 2 {
		if s, e := Load(b.k, 1, b.programs, st); s != nil || e != api.ErrForm {
			b.t.Errorf("%s: %v, %v", what, s, e)
		}
	}
}

func TestLoadWrongProcs(t *testing.T) { // 28.3: numbers that are none, twice the same PID, Parents that are not there, Statuses
	versions(t, func(t *testing.T, version int) {
		b := family(t, version)
		b.loads(func(*State) {})
		for i := range 5 {
			change := func(what string, f func(p *Proc)) {
				t.Helper()
				b.noLoad(what, func(st *State) { f(&st.Procs[i]) })
			}
			for _, n := range noProcs {
				change("PID", func(p *Proc) { p.PID = n })
				if n != 0 {
					change("Parent", func(p *Proc) { p.Parent = n })
				}
			}
			change("its own Parent", func(p *Proc) { p.Parent = p.PID })
			change("Parent that is not there", func(p *Proc) { p.Parent = 6 })
			for _, n := range append([]int{4, 5, 8}, far...) {
				change("Program", func(p *Proc) { p.Program = n })
			}
			for _, n := range []int{-1, 256, 257, 1 << 32, math.MaxInt, math.MinInt} {
				change("Status", func(p *Proc) { p.Status = n })
			}
			b.noLoad("twice", func(st *State) { st.Procs = append(st.Procs, st.Procs[i]) })
			b.noLoad("twice", func(st *State) { st.Procs = append([]Proc{{PID: st.Procs[i].PID}}, st.Procs...) })
			b.noLoad("many times", func(st *State) { st.Procs = slices.Repeat(st.Procs[i:i+1], 1<<18) })
		}
		for _, i := range []int{0, 1, 3} {
			for _, n := range []int{1, 7, 255} {
				b.noLoad("Status of one that is alive", func(st *State) { st.Procs[i].Status = n })
			}
			b.noLoad("ended, with something", func(st *State) { st.Procs[i].Ended, st.Procs[i].Parent = true, []int{2, 1, 1, 1}[i] })
		}
		for _, i := range []int{2, 4} {
			b.noLoad("ended, without Parent", func(st *State) { st.Procs[i].Parent = 0 })
		}
		b.noLoad("all gone", func(st *State) { st.Procs = nil })
		for _, i := range []int{0, 1, 3} {
			b.noLoad("gone", func(st *State) { st.Procs = slices.Delete(st.Procs, i, i+1) })
		}
	})
}

func TestLoadRightProcs(t *testing.T) { // 28.3: what is not told to be wrong is right
	versions(t, func(t *testing.T, version int) {
		b := family(t, version)
		for _, change := range []func(st *State){
			func(st *State) { st.Procs = slices.Delete(st.Procs, 4, 5) },
			func(st *State) { st.Procs[1].Parent = 0 },
			func(st *State) { st.Procs[1].Parent = 4 },
			func(st *State) { st.Procs[0].Parent = 4 },
			func(st *State) { st.Procs[3].Parent = 3 },
			func(st *State) { st.Procs[4].Parent = 3 },
			func(st *State) { st.Procs[2].Status = 0 },
			func(st *State) { st.Procs[2].Status = 128 },
			func(st *State) { st.Procs[0].Program = 3 },
			func(st *State) { st.Procs[2].CPU = api.CPU{R: [8]uint16{65535, 1, 2, 3, 4, 5, 6, 65535}, PC: 65535} },
			func(st *State) { st.Procs = append(st.Procs, Proc{PID: 6, Parent: 5, Program: 2}) },
			func(st *State) {
				st.Procs = append([]Proc{{PID: 6, Parent: 2, Ended: true, Status: 7, Program: 3}}, st.Procs...)
			},
		} {
			st := b.s.State()
			change(&st)
			s, e := Load(b.k, 1, b.programs, st)
			if e != api.OK {
				t.Errorf("Load: %v: %v", e, st)
				continue
			}
			slices.SortFunc(st.Procs, func(a, b Proc) int { return a.PID - b.PID })
			if !alike(s.State(), st) {
				t.Errorf("State: %v, not %v", s.State(), st)
			}
		}
	})
}

func TestLoadWrongTables(t *testing.T) { // 28.3: ErrForm, if a layer's Load tells one
	versions(t, func(t *testing.T, version int) {
		b := family(t, version)
		for i := range b.s.State().Files {
			b.noLoad("file", func(st *State) { st.Files[i].ID = 4 })
			b.noLoad("file", func(st *State) { st.Files[i].Size = 33 })
			b.noLoad("file", func(st *State) { st.Files[i].Blocks[0] = 0 }) // another environment's
		}
		for i := range b.s.State().Pipes {
			b.noLoad("pipe", func(st *State) { st.Pipes[i].ID = 3 })
			b.noLoad("pipe", func(st *State) { st.Pipes[i].Data = strings.Repeat("a", 17) })
			b.noLoad("pipe", func(st *State) { st.Pipes = append(st.Pipes, st.Pipes[i]) })
		}
		for i := range b.s.State().Pages {
			b.noLoad("page", func(st *State) { st.Pages[i].Frame = 0 }) // another environment's
			b.noLoad("page", func(st *State) { st.Pages[i].Page = -1 })
			b.noLoad("page", func(st *State) { st.Pages = append(st.Pages, st.Pages[i]) })
		}
		st := b.s.State()
		for i := range st.Desc {
			b.noLoad("descriptor", func(st *State) { st.Desc[i].Kind = 5 })
			b.noLoad("descriptor", func(st *State) { st.Desc[i].Off = 33 })
			b.noLoad("descriptor", func(st *State) { st.Desc = append(st.Desc, st.Desc[i]) })
		}
		for i := range st.Areas {
			b.noLoad("area", func(st *State) { st.Areas[i].Count = 17 })
			b.noLoad("area", func(st *State) { st.Areas = append(st.Areas, st.Areas[i]) })
		}
		for i := range st.Opens {
			b.noLoad("object", func(st *State) { st.Opens[i].Kind = 0 })
			b.noLoad("object", func(st *State) { st.Opens = slices.Delete(st.Opens, i, i+1) })
			b.noLoad("object", func(st *State) { st.Opens = append(st.Opens, opens.Open{ID: 30, Kind: 1}) })
		}
		for i := range st.Slots {
			b.noLoad("slot", func(st *State) { st.Slots[i].Open = 20 })
			b.noLoad("slot", func(st *State) { st.Slots = append(st.Slots, st.Slots[i]) })
		}
		for i := range st.Spans {
			b.noLoad("span", func(st *State) { st.Spans[i].Prot = 2 })
			b.noLoad("span", func(st *State) { st.Spans = append(st.Spans, st.Spans[i]) })
		}
		for _, env := range []int{2, 3, 0} { // another one's frames and blocks
			if s, e := Load(b.k, env, b.programs, st); s != nil || e != api.ErrForm {
				t.Errorf("Load(%d): %v, %v", env, s, e)
			}
		}
		if s, e := Load(nil, 1, b.programs, st); s != nil || e != api.ErrForm {
			t.Errorf("Load: %v, %v", s, e)
		}
	})
}

func TestLoadOneWrongTable(t *testing.T) { // 28.3: ErrForm, also where nothing else hangs on that table
	versions(t, func(t *testing.T, version int) {
		b := boxOf(t, version, 2, 2, "\x00")
		b.noLoad("file", func(st *State) { st.Files = []files.Info{{ID: 0, Size: 1}} })
		b.noLoad("page", func(st *State) { st.Pages = []pages.Entry{{PID: 1, Page: 0, Frame: 1}} })
		b.noLoad("pipe", func(st *State) { st.Pipes = []pipes.Info{{ID: 3}} })
		if version == 1 {
			b.noLoad("descriptor", func(st *State) { st.Desc[0].Kind = 5 })
			b.noLoad("area", func(st *State) { st.Areas[0].Count = 17 })
			b.noLoad("both", func(st *State) { st.Desc[1].Slot, st.Areas[0].First = 0, 13 })
		} else {
			b.noLoad("slot", func(st *State) { st.Slots[0].Slot = 6 })
			b.noLoad("object", func(st *State) { st.Opens[1].Off = 1 })
			b.noLoad("span", func(st *State) { st.Spans[0].Prot = 0 })
			b.noLoad("both", func(st *State) { st.Slots[1].Slot, st.Spans[0].First = 0, 13 })
		}
	})
}

// owner adds something of a process to a state: a descriptor, or an area.
func owner(version, pid int, area bool) func(st *State) {
	return func(st *State) {
		switch {
		case version == 1 && area:
			st.Areas = append(st.Areas, areas.Area{PID: pid, First: 9, Count: 1})
		case version == 1:
			st.Desc = append(st.Desc, desc.Entry{PID: pid, Slot: 5, Kind: 1})
		case area:
			st.Spans = append(st.Spans, spans.Span{PID: pid, First: 9, Count: 1, Prot: 1})
			slices.SortFunc(st.Spans, func(a, b spans.Span) int { return a.PID*100 + a.First - b.PID*100 - b.First })
		default:
			st.Slots = append(st.Slots, opens.Slot{PID: pid, Slot: 5, Open: 0})
		}
	}
}

func TestLoadOfTheDead(t *testing.T) { // 28.3: a descriptor, an area or a page is of a process that is not alive, or is a page in no area
	versions(t, func(t *testing.T, version int) {
		b := family(t, version)
		for pid := 1; pid <= 6; pid++ {
			for _, area := range []bool{false, true} {
				if pid == 3 || pid == 5 || pid == 6 {
					b.noLoad("of the dead", owner(version, pid, area))
					continue
				}
				if pid == 4 && !area {
					continue // its slot 5 has one
				}
				st := b.s.State()
				owner(version, pid, area)(&st)
				if _, e := Load(b.k, 1, b.programs, st); e != api.OK {
					t.Errorf("Load: %v: %v", e, st)
				}
			}
			b.noLoad("a page", func(st *State) {
				st.Pages = append(st.Pages, pages.Entry{PID: pid, Page: 9, Frame: st.Pages[0].Frame})
			})
			for _, page := range []int{6, 15} {
				b.noLoad("a page in no area", func(st *State) { st.Pages[len(st.Pages)-1].Page = page })
			}
			b.noLoad("a page of the dead", func(st *State) {
				st.Pages[0].PID = []int{3, 5, 6}[pid%3]
			})
		}
	})
}

func TestLoadOfWhatIsNamed(t *testing.T) { // 28.3: a File descriptor names no file, a pipe's end no pipe, or a pipe is named by none
	versions(t, func(t *testing.T, version int) {
		b := family(t, version)
		for i := range 2 {
			b.noLoad("no file", func(st *State) { st.Files = slices.Delete(st.Files, i, i+1) })
			b.noLoad("no pipe", func(st *State) { st.Pipes = slices.Delete(st.Pipes, i, i+1) })
		}
		b.noLoad("no files", func(st *State) { st.Files = nil })
		b.noLoad("no pipes", func(st *State) { st.Pipes = nil })
		b.noLoad("a pipe more", func(st *State) { st.Pipes = append(st.Pipes, pipes.Info{ID: 1}) })
		b.noLoad("another file", func(st *State) { st.Files[0].ID = 1 })
		b.noLoad("another pipe", func(st *State) { st.Pipes[0].ID = 1 })
		b.loads(func(st *State) { st.Files = append(st.Files, files.Info{ID: 3}) }) // a file that is named by none
		kinds := func(st *State, kind, obj, now int) {
			for i, d := range st.Desc {
				if d.Kind == kind && d.Obj == obj {
					st.Desc[i].Kind = now
				}
			}
			for i, o := range st.Opens {
				if o.Kind == kind && o.Obj == obj {
					st.Opens[i].Kind = now
				}
			}
		}
		for pipe, ends := range map[int][]int{0: {api.Reader, api.Writer}, 2: {api.Writer}} {
			for _, end := range ends {
				b.loads(func(st *State) { kinds(st, end, pipe, api.Reader) }) // one end, or two alike, are enough
				b.loads(func(st *State) { kinds(st, api.Reader, pipe, api.Writer) })
			}
			b.noLoad("a pipe that is named by none", func(st *State) { kinds(st, api.Writer, pipe, api.Console); clearObjects(st) })
		}
	})
}

// clearObjects makes Consoles right.
func clearObjects(st *State) {
	for i, d := range st.Desc {
		if d.Kind == api.Console {
			st.Desc[i].Obj = 0
		}
	}
	for i, o := range st.Opens {
		if o.Kind == api.Console {
			st.Opens[i].Obj = 0
		}
	}
}

func TestLoadOfOtherVersion(t *testing.T) { // 28.3: tables of the other version are not empty
	versions(t, func(t *testing.T, version int) {
		b := boxOf(t, version, 1, 1, "\x00")
		none := b.s.State()
		if version == 1 {
			none.Opens, none.Slots, none.Spans = []opens.Open{}, []opens.Slot{}, []spans.Span{}
			b.noLoad("objects", func(st *State) { st.Opens = []opens.Open{{ID: 0, Kind: 1}} })
			b.noLoad("slots", func(st *State) { st.Slots = []opens.Slot{{PID: 1, Slot: 2, Open: 0}} })
			b.noLoad("spans", func(st *State) { st.Spans = []spans.Span{{PID: 1, First: 8, Count: 1, Prot: 3}} })
		} else {
			none.Desc, none.Areas = []desc.Entry{}, []areas.Area{}
			b.noLoad("descriptors", func(st *State) { st.Desc = []desc.Entry{{PID: 1, Slot: 2, Kind: 1}} })
			b.noLoad("areas", func(st *State) { st.Areas = []areas.Area{{PID: 1, First: 8, Count: 1}} })
		}
		if s, e := Load(b.k, 1, b.programs, none); e != api.OK || !alike(s.State(), none) {
			t.Errorf("Load: %v, %v", s, e)
		}
		b.noLoad("the other version", func(st *State) { st.Version = 3 - version })
		if version == 1 { // one of each
			b.noLoad("an object and a slot", func(st *State) {
				st.Opens, st.Slots = []opens.Open{{ID: 0, Kind: 1}}, []opens.Slot{{PID: 1, Slot: 2, Open: 0}}
			})
			b.noLoad("a slot and a span", func(st *State) {
				st.Slots, st.Spans = []opens.Slot{{PID: 1, Slot: 2, Open: 0}}, []spans.Span{{PID: 1, First: 8, Count: 1, Prot: 3}}
			})
			b.noLoad("an object and a span", func(st *State) {
				st.Opens, st.Spans = []opens.Open{{ID: 0, Kind: 1}}, []spans.Span{{PID: 1, First: 8, Count: 1, Prot: 3}}
			})
		} else {
			b.noLoad("a descriptor and an area", func(st *State) {
				st.Desc, st.Areas = []desc.Entry{{PID: 1, Slot: 2, Kind: 1}}, []areas.Area{{PID: 1, First: 8, Count: 1}}
			})
		}
		b.noLoad("both versions", func(st *State) {
			other := first(3 - version)
			if version == 1 {
				st.Opens, st.Slots, st.Spans = other.Opens, other.Slots, other.Spans
			} else {
				st.Desc, st.Areas = other.Desc, other.Areas
			}
		})
	})
}

func TestLoadLeavesFrames(t *testing.T) { // 28.3: Load binds and frees nothing, whatever the state is; the rest is its caller's
	versions(t, func(t *testing.T, version int) {
		b := family(t, version)
		frames, blocks := b.k.List(1, api.Frame), b.k.List(1, api.Block)
		for _, st := range []State{first(version), b.s.State(), {Version: version, Procs: []Proc{{}}}, {Version: version}} {
			Load(b.k, 1, b.programs, st)
			if !slices.Equal(b.k.List(1, api.Frame), frames) || !slices.Equal(b.k.List(1, api.Block), blocks) {
				t.Errorf("frames %v, blocks %v", b.k.List(1, api.Frame), b.k.List(1, api.Block))
			}
		}
	})
}

func TestEnvironmentThatIsClosed(t *testing.T) { // nothing is promised then, but that calls end, and touch nothing of others
	versions(t, func(t *testing.T, version int) {
		b := family(t, version)
		s := b.s
		b.k.Close(1)
		b.k.Open(3, 1, [3]int{20, 20, 1})
		for range 20 {
			for _, kind := range []int{api.Frame, api.Block} {
				r := b.k.Do(3, kern.Call{What: kern.Bind, A: kind})
				b.k.Do(3, kern.Call{What: kern.Load, H: r.H, S: "sixteen bytes !!"})
				b.k.Do(3, kern.Call{What: kern.Write, H: r.H, S: "8 bytes!"})
			}
		}
		for i := range 200 {
			s.Step(i % 7)
			if strings.Contains(s.Memory(1+i%6), "byte") {
				t.Error("others' bytes")
			}
		}
		for n := range 20 {
			frame := b.k.Do(3, kern.Call{What: kern.Page, H: b.k.Root(api.Frame, b.k.List(3, api.Frame)[n])}).S
			block := b.k.Do(3, kern.Call{What: kern.Read, H: b.k.Root(api.Block, b.k.List(3, api.Block)[n])}).S
			if frame != "sixteen bytes !!" || block != "8 bytes!" {
				t.Errorf("%q, %q", frame, block)
			}
		}
	})
}
