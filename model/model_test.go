package model

import (
	"math"
	"slices"
	"strings"
	"testing"

	"imago/abs"
	"imago/api"
	"imago/sys"
)

func TestNew(t *testing.T) { // 35.1: sys.New's errors
	wrong := func(version int, programs []string, want api.Errno) {
		t.Helper()
		m, e := New(version, Limits{4, 4, 8}, programs)
		if m != nil || e != want {
			t.Errorf("New(%d, %d programs): %v, %v, not %v", version, len(programs), m, e, want)
		}
		if _, as := sys.New(nil, 0, version, programs); as != want {
			t.Errorf("sys.New: %v", as)
		}
	}
	long := strings.Repeat("\x00", 257)
	for _, version := range append([]int{0, 3}, far...) {
		wrong(version, []string{""}, api.ErrArg)
		wrong(version, []string{long}, api.ErrArg) // ErrArg comes first
	}
	for _, version := range []int{1, 2} {
		wrong(version, nil, api.ErrArg)
		wrong(version, []string{}, api.ErrArg)
		wrong(version, make([]string, 9), api.ErrArg)
		wrong(version, append(make([]string, 8), long), api.ErrArg)
		wrong(version, []string{long}, api.ErrLong)
		wrong(version, []string{"", long, ""}, api.ErrLong)
		wrong(version, append(make([]string, 7), long), api.ErrLong)
		for n := 1; n <= 8; n++ {
			m, e := New(version, Limits{}, slices.Repeat([]string{long[:256]}, n))
			if m == nil || e != api.OK || m.Version() != version {
				t.Errorf("New: %v, %v", m, e)
			}
		}
	}
}

func TestFirst(t *testing.T) { // 35.1, 35.2: at the beginning there is process 1, of program 0, with an area of 4 pages and two Consoles; no frame, no block
	for _, version := range []int{1, 2} {
		m, _ := New(version, Limits{4, 4, 8}, []string{"", "\x00"})
		want := abs.View{
			Procs: []abs.Proc{{
				PID:    1,
				Memory: strings.Repeat("\x00", 256),
				Areas:  []abs.Area{{First: 0, Count: 4, Write: true}},
				Slots:  []abs.Slot{{Slot: 0, Kind: api.Console}, {Slot: 1, Kind: api.Console}},
			}},
			Shared: []int{0, 1},
		}
		if v := m.View(); !abs.Same(v, want) {
			t.Errorf("View: %v", v)
		}
		if f, b := m.Used(); f != 0 || b != 0 || m.Version() != version {
			t.Errorf("Used: %d, %d", f, b)
		}
	}
}

func TestKept(t *testing.T) { // R3: programs are not kept, and views share nothing with what is
	programs := []string{"\x14\x0e\x14\x0e\x14\x0e", "\x00"}
	m, _ := New(1, Limits{4, 4, 8}, programs)
	programs[0], programs[1] = "\x00", "\x14\x0e"
	if e := m.Step(1); e != (sys.Event{Kind: sys.Done, PID: 1, Call: 14, Result: 1}) {
		t.Errorf("Step: %v", e)
	}
	b := plenty(t, 2)
	b.does(1, 5, 2, 0, 0)
	b.does(1, 9, 1027)
	b.does(1, 2, 2)
	was := b.m.View()
	v := b.m.View()
	for i := range v.Procs {
		p := &v.Procs[i]
		p.PID, p.CPU.PC = 9, 9
		p.Areas[0] = abs.Area{}
		p.Slots[0] = abs.Slot{}
		_ = append(p.Areas[:0], abs.Area{First: 9}, abs.Area{First: 9})
		_ = append(p.Slots[:0], abs.Slot{Slot: 9})
	}
	v.Files[0], v.Pipes[0], v.Shared[0] = abs.Thing{}, abs.Thing{}, 9
	if now := b.m.View(); !abs.Same(was, now) {
		t.Errorf("View: %v, not %v", now, was)
	}
	for range 2 { // R6
		b.same()
	}
}

func TestIdle(t *testing.T) { // 35.1: a process that is not there, or not alive, is Idle, with the PID
	versions(t, func(t *testing.T, version int, b *twins) {
		b.does(1, 2, 2)
		b.exits(2, 7)
		for _, pid := range append([]int{0, 2, 3, 6}, far...) {
			b.is(b.step(pid), sys.Event{Kind: sys.Idle, PID: pid})
		}
		b.exits(1, 3)
		if v := b.m.View(); len(v.Procs)+len(v.Shared) != 0 {
			t.Errorf("View: %v", v)
		}
		b.is(b.step(1), sys.Event{Kind: sys.Idle, PID: 1})
	})
}

func TestInstructions(t *testing.T) { // 35.1: Ran, and how processes end: by Stop with 0, by none with 132
	versions(t, func(t *testing.T, version int, b *twins) {
		b.stores(1, 5, 300)
		b.moves(1, storeW, 15, 0x6162)
		b.is(b.step(1), sys.Event{Kind: sys.Ran, PID: 1})
		b.has(1, 4, "\x00\x2c\x00")
		b.has(1, 14, "\x00ab\x00")
		b.moves(1, load, 15, 9)
		b.is(b.step(1), sys.Event{Kind: sys.Ran, PID: 1})
		if c := b.m.proc(1).CPU; c.R[5] != 'a' || c.PC != 2 {
			t.Errorf("registers %v", c)
		}
		b.moves(1, loadW, 15, 9)
		b.step(1)
		if c := b.m.proc(1).CPU; c.R[5] != 0x6162 || c.PC != 4 {
			t.Errorf("registers %v", c)
		}
		for n := 2; n <= 4; n++ {
			b.does(1, 2, n)
		}
		b.sets(2, ofNothing, api.CPU{PC: 7})
		b.ends(2, 132)
		b.sets(3, ofMoves, api.CPU{PC: 1})
		b.ends(3, 132)
		b.moves(4, load, 64, 0)
		b.ends(4, 139)
		for pid, c := range map[int]api.CPU{2: {PC: 7}, 3: {PC: 1}, 4: {R: [8]uint16{4: 64}, PC: 2}} {
			if p := b.m.proc(pid); p.CPU != c || !p.Ended || p.Parent != 1 {
				t.Errorf("process %d: %v", pid, p)
			}
		}
	})
}

func TestStop(t *testing.T) { // 35.1: Stop ends a process with 0
	b := twinsOf(t, 1, 4, 4, 1, "\x00\x00")
	b.sets(1, own, api.CPU{})
	b.ends(1, 0)
}

func TestFaults(t *testing.T) { // 35.1: an address that is in no area, or not to be written there, ends its process with 139
	versions(t, func(t *testing.T, version int, b *twins) {
		b.does(1, 12, 64, 1)
		b.does(1, 12, 80, 2)
		b.does(1, 13, 0, 64)
		fault := 0
		if version == 2 {
			b.does(1, 17, 0, 80, 1)
			fault = 139
		}
		for _, x := range []struct{ at, addr, status int }{
			{load, 63, 0}, {load, 64, 139}, {load, 79, 139}, {load, 80, 0}, {load, 111, 0}, {load, 112, 139}, {load, 255, 139}, {load, 256, 139}, {load, 65535, 139},
			{loadW, 62, 0}, {loadW, 63, 139}, {loadW, 79, 139}, {loadW, 80, 0}, {loadW, 110, 0}, {loadW, 111, 139}, {loadW, 255, 139}, {loadW, 65535, 139},
			{store, 63, 0}, {store, 64, 139}, {store, 79, 139}, {store, 80, fault}, {store, 112, 139}, {store, 256, 139},
			{storeW, 62, 0}, {storeW, 63, 139}, {storeW, 79, 139}, {storeW, 80, fault}, {storeW, 111, 139}, {storeW, 65535, 139},
		} {
			b.does(1, 2, 2)
			b.moves(2, x.at, x.addr, 7)
			if x.status == 0 {
				b.is(b.step(2), sys.Event{Kind: sys.Ran, PID: 2})
				b.exits(2, 0)
			} else {
				b.ends(2, x.status)
			}
			b.does(1, 3, 2*256+x.status)
		}
	})
}

func TestEnds(t *testing.T) { // 35.1: the lowest 8 bits are the status; it stays till it is waited for; children are nobody's, and those that have ended are gone
	versions(t, func(t *testing.T, version int, b *twins) {
		for _, status := range []int{0, 1, 255, 256, 511, 65535} {
			b.does(1, 2, 2)
			b.exits(2, status)
			b.does(1, 3, 512+status&255)
		}
		b.does(1, 2, 2)
		b.does(2, 2, 3)
		b.does(2, 2, 4)
		b.does(2, 5, 2, 0, 0)
		b.does(2, 9, 4*256+3)
		b.stores(2, 0, 7)
		b.used(1, 0)
		b.exits(3, 9)
		b.exits(2, 8) // 3 is gone, 4 is nobody's
		b.used(0, 0)
		b.pipes()
		b.slots(2)
		b.zones(2)
		if l := b.m.all(); len(l) != 3 || !b.m.proc(2).Ended || b.m.proc(2).Parent != 1 || b.m.proc(4).Parent != 0 || b.m.proc(4).Ended {
			t.Errorf("%v", b.m.View())
		}
		b.exits(4, 1)
		if len(b.m.all()) != 2 {
			t.Errorf("%v", b.m.View())
		}
		b.does(1, 3, 512+8)
		b.fails(1, 3, tellChild)
	})
}

func TestWait(t *testing.T) { // call 3: the lowest child that has ended; else it is blocked; none: Child
	versions(t, func(t *testing.T, version int, b *twins) {
		b.fails(1, 3, tellChild)
		for n := 2; n <= 4; n++ {
			b.does(1, 2, n)
		}
		b.does(2, 2, 5)
		b.waits(1, 3)
		b.exits(5, 6)
		b.waits(1, 3)
		b.exits(4, 1)
		b.exits(3, 2)
		b.does(1, 3, 3*256+2)
		b.does(1, 3, 4*256+1)
		b.waits(1, 3)
		b.does(2, 3, 5*256+6)
		b.exits(2, 255)
		b.does(1, 3, 2*256+255)
		b.fails(1, 3, tellChild)
	})
}

func TestFork(t *testing.T) { // call 2: the lowest free number, with all that the process has; it gets 0; Full
	versions(t, func(t *testing.T, version int, b *twins) {
		b.does(1, 5, 2, 1, 0)
		b.fills(1, 30, "abc")
		b.does(1, 8, 3, 2, 30, 3)
		b.does(1, 12, 64, 2)
		b.used(2, 1)
		for n := 2; n <= 6; n++ {
			b.does(1, 2, n)
			b.zones(n, 403, 40203)
			b.slots(n, 10000, 10000, 20103)
			b.has(n, 30, "abc")
			if p := b.m.proc(n); p.Parent != 1 || p.CPU != (api.CPU{R: [8]uint16{0, 9, 9, 9, 4, 5, 6, 7}, PC: 6}) || p.Program != ofCalls {
				t.Errorf("process %d: %v", n, p)
			}
		}
		b.used(2, 1) // pages that are shared count once
		b.fails(1, 2, tellFull)
		b.exits(3, 0)
		b.fails(1, 2, tellFull) // it is there still
		b.does(1, 3, 3*256)
		b.does(4, 2, 3)
		b.does(3, 11, 9, 2, 9)
		b.slots(4, 10000, 10000, of2(version, 20103, 20109))
		b.slots(3, 10000, 10000, 20109)
		b.does(3, 13, 0, 64)
		b.does(3, 12, 64, 3)
		b.zones(1, 403, 40203)
		b.zones(3, 403, 40303)
	})
}

func TestExec(t *testing.T) { // call 4: registers are 0, areas and pages gone, descriptors stay; None
	versions(t, func(t *testing.T, version int, b *twins) {
		b.does(1, 5, 2, 1, 0)
		b.does(1, 12, 64, 2)
		b.stores(1, 70, 1)
		b.stores(1, 0, 1)
		b.fails(1, 4, tellNone, 4)
		b.fails(1, 4, tellNone, 65535)
		b.used(2, 0)
		b.does(1, 4, 0, 3)
		b.used(0, 0)
		b.zones(1, 403)
		b.slots(1, 10000, 10000, 20100)
		if p := b.m.proc(1); p.Program != 3 || p.CPU != (api.CPU{}) {
			t.Errorf("%v", p)
		}
		b.ends(1, 132)
	})
}

func TestOpen(t *testing.T) { // call 5: None, Arg, Full, in this order; the file is made, and cut
	versions(t, func(t *testing.T, version int, b *twins) {
		for _, a := range []int{4, 5, 255, 65535} {
			b.fails(1, 5, tellNone, a, 0)
			b.fails(1, 5, tellNone, a, 2)
		}
		for _, how := range []int{2, 3, 65535} {
			b.fails(1, 5, tellArg, 3, how)
		}
		b.does(1, 5, 2, 3, 0)
		b.does(1, 5, 3, 1, 1)
		b.files("-", "", "-", "")
		b.fills(1, 0, "abcdefghi")
		b.does(1, 8, 9, 2, 0, 9)
		b.does(1, 5, 4, 3, 0)
		b.files("-", "", "-", "abcdefghi")
		b.slots(1, 10000, 10000, 20309, 20100, 20300)
		b.used(1, 2)
		b.does(1, 5, 5, 3, 1)
		b.files("-", "", "-", "")
		b.used(1, 0)
		b.does(1, 8, 9, 4, 0, 9)
		b.fails(1, 5, tellFull, 3, 1) // it is not cut
		b.fails(1, 5, tellFull, 0, 0) // it is not made
		b.files("-", "", "-", "abcdefghi")
		b.fails(1, 5, tellNone, 4, 0)
		b.fails(1, 5, tellArg, 0, 2)
	})
}

func TestClose(t *testing.T) { // call 6: Arg; a pipe of which no end is named is closed
	versions(t, func(t *testing.T, version int, b *twins) {
		for _, a := range []int{2, 5, 6, 7, 255, 65535} {
			b.fails(1, 6, tellArg, a)
		}
		b.does(1, 9, 770)
		b.does(1, 9, 1284)
		b.does(1, 2, 2)
		b.does(1, 6, 0, 2)
		b.does(1, 6, 0, 3)
		b.pipes("", "")
		b.does(2, 6, 0, 2)
		b.pipes("", "")
		b.does(2, 6, 0, 3)
		b.pipes("-", "")
		b.does(1, 6, 0, 4)
		b.does(2, 6, 0, 4)
		b.does(2, 6, 0, 5)
		b.pipes("-", "")
		b.does(1, 6, 0, 5)
		b.pipes()
		b.fails(1, 6, tellArg, 5)
	})
}

func TestRead(t *testing.T) { // call 7, of a Console, and of a file
	versions(t, func(t *testing.T, version int, b *twins) {
		b.does(1, 7, 0, 0, 64, 0)
		b.does(1, 7, 0, 0, 0, 16)
		b.used(0, 0)
		for _, x := range [][3]int{{2, 0, 1}, {6, 0, 1}, {65535, 0, 0}, {0, 0, 17}, {0, 0, 65535}, {0, 49, 16}, {0, 64, 1}, {0, 65535, 1}} {
			b.fails(1, 7, tellArg, x[0], x[1], x[2])
		}
		b.does(1, 5, 2, 0, 0)
		b.fills(1, 0, "abcdefghijklmnop")
		b.does(1, 8, 16, 2, 0, 16)
		b.does(1, 7, 0, 2, 30, 16) // at the end
		b.does(1, 11, 3, 2, 3)
		b.does(1, 7, 0, 2, 65535, 0)
		b.does(1, 7, 5, 2, 30, 5)
		b.has(1, 29, "\x00defgh\x00")
		b.slots(1, 10000, 10000, 20008)
		b.does(1, 7, 8, 2, 40, 16)
		b.has(1, 39, "\x00ijklmnop\x00")
		b.slots(1, 10000, 10000, 20016)
		b.does(1, 11, 32, 2, 32)
		b.does(1, 7, 0, 2, 30, 1)
		b.slots(1, 10000, 10000, 20032)
		if version == 2 {
			b.does(1, 17, 0, 0, 1)
			b.does(1, 7, 0, 2, 30, 0)
			b.fails(1, 7, tellArg, 2, 30, 1)
			b.does(1, 11, 0, 2, 0)
			b.does(1, 8, 16, 2, 0, 16)
		}
	})
}

func TestReader(t *testing.T) { // call 7, of a pipe: what waits; nothing: 0, if there is no Writer, else it is blocked; Arg of a Writer
	versions(t, func(t *testing.T, version int, b *twins) {
		b.does(1, 9, 770)
		b.fails(1, 7, tellArg, 3, 0, 1)
		b.fails(1, 7, tellArg, 3, 0, 0)
		b.waits(1, 7, 2, 0, 1)
		b.waits(1, 7, 2, 0, 0)
		b.fails(1, 7, tellArg, 2, 64, 1)
		b.fails(1, 7, tellArg, 2, 0, 17)
		b.fills(1, 0, "abcdef")
		b.does(1, 8, 6, 3, 0, 6)
		b.does(1, 7, 0, 2, 32, 0)
		b.does(1, 7, 2, 2, 32, 2)
		b.has(1, 32, "ab\x00")
		b.pipes("cdef")
		b.does(1, 10, 4, 3)
		b.does(1, 6, 0, 3)
		b.does(1, 7, 4, 2, 32, 16)
		b.has(1, 32, "cdef\x00")
		b.waits(1, 7, 2, 0, 1)
		b.does(1, 6, 0, 4)
		b.does(1, 7, 0, 2, 32, 1)
		b.does(1, 7, 0, 2, 32, 0)
		b.pipes("")
	})
}

func TestWrite(t *testing.T) { // call 8, of a Console, and of a file: bytes 0 stand between its end and its place
	versions(t, func(t *testing.T, version int, b *twins) {
		b.fills(1, 14, "abc")
		b.puts("abc", 1, 8, 3, 0, 14, 3)
		b.puts("", 1, 8, 0, 1, 65535, 0)
		b.puts(string(make([]byte, 16)), 1, 8, 16, 1, 48, 16)
		b.does(1, 5, 2, 0, 0)
		for _, slot := range []int{0, 2} {
			for _, x := range [][2]int{{0, 17}, {0, 65535}, {49, 16}, {64, 1}, {65535, 1}, {65535, 16}} {
				b.fails(1, 8, tellArg, slot, x[0], x[1])
			}
		}
		b.fails(1, 8, tellArg, 3, 0, 1)
		b.fails(1, 8, tellArg, 65535, 0, 0)
		b.does(1, 11, 9, 2, 9)
		b.does(1, 8, 0, 2, 14, 0)
		b.files("")
		b.does(1, 8, 3, 2, 14, 3)
		b.files("\x00\x00\x00\x00\x00\x00\x00\x00\x00abc")
		b.used(2, 2)
		b.does(1, 11, 1, 2, 1)
		b.does(1, 8, 2, 2, 15, 2)
		b.files("\x00bc\x00\x00\x00\x00\x00\x00abc")
		b.slots(1, 10000, 10000, 20003)
		b.does(1, 11, 30, 2, 30)
		b.fails(1, 8, tellFull, 2, 14, 3) // more than MaxFile
		b.does(1, 8, 2, 2, 14, 2)
		b.used(2, 4)
		b.slots(1, 10000, 10000, 20032)
		b.fails(1, 8, tellFull, 2, 14, 1)
		b.does(1, 8, 0, 2, 14, 0)
	})
}

func TestWriter(t *testing.T) { // call 8, of a pipe: Pipe: no Reader; blocked, if there is no room for all; Arg of a Reader
	versions(t, func(t *testing.T, version int, b *twins) {
		b.does(1, 9, 770)
		b.fills(1, 0, "0123456789abcdef")
		b.fails(1, 8, tellArg, 2, 0, 1)
		b.fails(1, 8, tellArg, 2, 0, 0)
		b.does(1, 8, 0, 3, 65535, 0)
		b.does(1, 8, 16, 3, 0, 16)
		b.waits(1, 8, 3, 0, 1)
		b.does(1, 8, 0, 3, 0, 0)
		b.does(1, 7, 1, 2, 32, 1)
		b.waits(1, 8, 3, 0, 2)
		b.does(1, 8, 1, 3, 2, 1)
		b.pipes("123456789abcdef2")
		b.fails(1, 8, tellArg, 3, 60, 5) // ahead of a wait
		b.does(1, 6, 0, 2)
		b.fails(1, 8, tellPipe, 3, 0, 1)
		b.fails(1, 8, tellPipe, 3, 0, 0)
		b.fails(1, 8, tellArg, 3, 60, 5)
	})
}

func TestPipe(t *testing.T) { // call 9: a Reader, then a Writer, in the lowest slots; the pipe of the lowest number; Full
	versions(t, func(t *testing.T, version int, b *twins) {
		b.does(1, 9, 770)
		b.does(1, 9, 1284)
		b.fails(1, 9, tellFull)
		b.does(1, 6, 0, 0)
		b.fails(1, 9, tellFull) // one slot
		b.slots(1, -1, 10000, 30000, 40000, 30100, 40100)
		b.does(1, 6, 0, 4)
		b.does(1, 9, 4*256)
		b.pipes("", "", "")
		b.does(1, 2, 2)
		b.does(2, 6, 0, 1)
		b.does(2, 6, 0, 2)
		b.fails(2, 9, tellFull) // no pipe
		b.does(1, 6, 0, 5)
		b.does(2, 6, 0, 5)
		b.does(2, 9, 2*256+1)
		b.slots(2, 30200, 30100, 40100, 40000, 40200)
	})
}

func TestDup(t *testing.T) { // call 10: Arg, Full; with a place of its own, or (version 2) the same one
	versions(t, func(t *testing.T, version int, b *twins) {
		b.does(1, 5, 2, 3, 0)
		b.does(1, 11, 4, 2, 4)
		for _, a := range []int{3, 5, 6, 7, 65535} {
			b.fails(1, 10, tellArg, a)
		}
		b.does(1, 6, 0, 0)
		b.does(1, 10, 0, 2)
		b.does(1, 11, 9, 0, 9)
		b.slots(1, 20309, 10000, of2(version, 20304, 20309))
		b.shared(0, 1, of2(version, 2, 0))
		for n := 3; n < 6; n++ {
			b.does(1, 10, n, 1)
		}
		b.fails(1, 10, tellFull, 2)
		b.fails(1, 10, tellArg, 6)
	})
}

func TestSeek(t *testing.T) { // call 11: Arg: no descriptor, no File, above MaxFile
	versions(t, func(t *testing.T, version int, b *twins) {
		b.does(1, 9, 770)
		b.does(1, 5, 4, 0, 0)
		for _, off := range []int{1, 31, 32, 0} {
			b.does(1, 11, off, 4, off)
			b.slots(1, 10000, 10000, 30000, 40000, 20000+off)
		}
		for _, off := range []int{33, 34, 255, 32768, 65535} {
			b.fails(1, 11, tellArg, 4, off)
		}
		for _, a := range []int{0, 1, 2, 3, 5, 6, 65535} {
			b.fails(1, 11, tellArg, a, 0)
		}
	})
}

func TestMap(t *testing.T) { // call 12: Arg: not from 1 to Pages; Full; FrameSize times the lowest first page
	versions(t, func(t *testing.T, version int, b *twins) {
		for _, a := range []int{0, 17, 255, 65535} {
			b.fails(1, 12, tellArg, a)
		}
		b.fails(1, 12, tellFull, 13)
		b.fails(1, 12, tellFull, 16)
		b.does(1, 12, 64, 3)
		b.does(1, 12, 112, 9)
		b.fails(1, 12, tellFull, 1)
		b.does(1, 13, 0, 64)
		b.fails(1, 12, tellFull, 4)
		b.does(1, 12, 64, 1)
		b.zones(1, 403, 40103, 70903)
		b.does(1, 12, 80, 1)
		b.fails(1, 12, tellFull, 1) // MaxAreas
		b.does(1, 13, 0, 0)
		b.does(1, 12, 0, 4)
		b.zones(1, 403, 40103, 50103, 70903)
		for _, a := range []int{0, 64, 80, 112} {
			b.does(1, 13, 0, a)
		}
		b.does(1, 12, 0, 16)
		b.stores(1, 255, 7)
		b.does(1, 13, 0, 0)
		b.zones(1)
	})
}

func TestUnmap(t *testing.T) { // call 13: Arg: no area begins there; its pages are gone, those alone
	versions(t, func(t *testing.T, version int, b *twins) {
		b.does(1, 12, 64, 2)
		b.does(1, 12, 96, 1)
		b.fills(1, 62, "abcd")
		b.fills(1, 94, "abcd")
		b.does(1, 2, 2)
		for _, a := range []int{1, 16, 63, 65, 80, 112, 256, 4096, 64 + 4096, 65535} {
			b.fails(1, 13, tellArg, a)
		}
		b.used(4, 0)
		b.does(1, 13, 0, 64)
		b.has(1, 62, "ab\x00\x00")
		b.has(1, 94, "\x00\x00cd")
		b.has(2, 62, "abcd")
		b.zones(1, 403, 60103)
		b.used(4, 0)
		b.fails(1, 13, tellArg, 64)
		b.does(2, 13, 0, 64)
		b.used(2, 0)
	})
}

func TestPid(t *testing.T) { // calls 14, 0, and behind the last one
	versions(t, func(t *testing.T, version int, b *twins) {
		b.does(1, 2, 2)
		b.does(1, 14, 1)
		b.does(2, 14, 2, 5, 5, 5)
		for _, n := range []int{0, 18, 19, 100, 127, 128, 255} {
			b.fails(1, n, tellCall)
		}
		for n := 15; n <= 17 && version == 1; n++ {
			b.fails(1, n, tellCall, 0, 1)
		}
	})
}

func TestDup2(t *testing.T) { // call 15, of version 2: Arg: no descriptor a, no slot b; what stood there is closed
	for _, b := range []*twins{plenty(t, 2), switched(t)} {
		b.does(1, 9, 770)
		b.does(1, 5, 4, 2, 0)
		for _, x := range [][2]int{{5, 0}, {6, 0}, {65535, 0}, {0, 6}, {0, 65535}, {5, 6}} {
			b.fails(1, 15, tellArg, x[0], x[1])
		}
		b.does(1, 15, 4, 4, 4)
		b.does(1, 15, 0, 4, 0)
		b.does(1, 15, 5, 4, 5)
		b.does(1, 11, 7, 5, 7)
		b.slots(1, 20207, 10000, 30000, 40000, 20207, 20207)
		b.shared(0, 1, 2, 3, 0, 0)
		b.does(1, 15, 2, 1, 2)
		b.pipes("")
		b.does(1, 15, 3, 1, 3)
		b.pipes()
		b.slots(1, 20207, 10000, 10000, 10000, 20207, 20207)
	}
}

// switched are twins of version 2 that were of version 1.
func switched(t *testing.T) *twins {
	t.Helper()
	b := plenty(t, 1)
	b.change()
	return b
}

func TestSkip(t *testing.T) { // call 16, of version 2: Arg: no descriptor, no File, a place that is not from 0 to MaxFile
	for _, b := range []*twins{plenty(t, 2), switched(t)} {
		b.does(1, 9, 770)
		b.does(1, 5, 4, 2, 0)
		at := 0
		for _, by := range []int{0, 5, 27, -32, -1, 33, 32, 1, -33, -31, -1, -1, 32767, -32768, 16} {
			if at+by < 0 || at+by > 32 {
				b.fails(1, 16, tellArg, 4, by&65535)
				continue
			}
			at += by
			b.does(1, 16, at, 4, by&65535)
		}
		for _, a := range []int{0, 2, 3, 5, 6, 65535} {
			b.fails(1, 16, tellArg, a, 0)
		}
	}
}

func TestProtect(t *testing.T) { // call 17, of version 2: Arg: no area begins there, no Prot
	for _, b := range []*twins{plenty(t, 2), switched(t)} {
		b.does(1, 12, 64, 2)
		for _, x := range [][2]int{{16, 1}, {80, 3}, {65, 3}, {4160, 1}, {65535, 1}, {64, 0}, {64, 2}, {64, 4}, {64, 65535}} {
			b.fails(1, 17, tellArg, x[0], x[1])
		}
		b.does(1, 17, 0, 64, 1)
		b.does(1, 17, 0, 64, 1)
		b.does(1, 2, 2)
		b.does(1, 17, 0, 64, 3)
		b.zones(1, 403, 40203)
		b.zones(2, 403, 40201)
		b.does(2, 17, 0, 0, 1)
		b.does(2, 4, 0, 0)
		b.zones(2, 403)
	}
}

func TestFrames(t *testing.T) { // 35.1, P6: what would be more than the limit of frames cannot be got: 137, or Mem, and nothing changes
	for version := 1; version <= 2; version++ {
		b := twinsOf(t, version, 2, 4, 1)
		b.does(1, 5, 2, 0, 0)
		b.fills(1, 0, "abcdefghijklmnop")
		b.does(1, 8, 16, 2, 0, 16)
		b.used(1, 2)
		b.does(1, 11, 0, 2, 0)
		b.does(1, 7, 16, 2, 16, 16) // one more
		b.does(1, 11, 0, 2, 0)
		b.fails(1, 7, tellMem, 2, 24, 16)
		b.fails(1, 7, tellMem, 2, 32, 1)
		b.does(1, 7, 0, 2, 32, 0)
		b.does(1, 7, 16, 2, 8, 16) // where they are there already
		b.slots(1, 10000, 10000, 20016)
		b.does(1, 2, 2)
		b.used(2, 2)
		b.does(1, 11, 0, 2, 0)
		b.fails(1, 7, tellMem, 2, 0, 1) // it is shared
		b.does(2, 2, 3)
		b.moves(2, store, 0, 7)
		b.ends(2, 137)
		b.moves(3, storeW, 31, 7)
		b.ends(3, 137)
		b.used(2, 2)
		b.stores(1, 0, 'x') // no longer
		b.has(1, 0, "x")
		b.moves(1, storeW, 31, 7)
		b.ends(1, 137)
		b.used(0, 2)
	}
}

func TestAllPages(t *testing.T) { // 35.1: all pages of a process are written, one by one
	versions(t, func(t *testing.T, version int, b *twins) {
		b.does(1, 12, 64, 12)
		for page := range 16 {
			b.stores(1, 255-page*16, page)
			b.used(page+1, 0)
		}
		b.does(1, 2, 2)
		for page := range 8 {
			b.stores(2, page*16, page)
			b.used(page+17, 0)
		}
	})
}

func TestPipeMem(t *testing.T) { // 35.1: what cannot be read stays in its pipe
	b := twinsOf(t, 1, 1, 0, 1)
	b.does(1, 9, 770)
	b.fills(1, 0, "abc")
	b.does(1, 8, 3, 3, 0, 3)
	b.fails(1, 7, tellMem, 2, 16, 3)
	b.fails(1, 7, tellMem, 2, 15, 2)
	b.does(1, 7, 1, 2, 15, 1)
	b.does(1, 7, 2, 2, 14, 3)
	b.has(1, 14, "bc")
}

func TestBlocks(t *testing.T) { // 35.1, P6: likewise of blocks: Full
	for version := 1; version <= 2; version++ {
		b := twinsOf(t, version, 4, 3, 1)
		b.does(1, 5, 2, 0, 0)
		b.does(1, 5, 3, 1, 0)
		b.does(1, 8, 16, 2, 0, 16)
		b.does(1, 8, 8, 3, 0, 8)
		b.used(0, 3)
		b.fails(1, 8, tellFull, 3, 0, 1)
		b.fails(1, 8, tellFull, 2, 0, 16)
		b.does(1, 8, 0, 3, 0, 0)
		b.does(1, 11, 7, 3, 7)
		b.does(1, 8, 1, 3, 0, 1)
		b.does(1, 5, 4, 0, 1) // cut
		b.used(0, 1)
		b.does(1, 8, 16, 3, 0, 16)
		b.used(0, 3)
		b.files("", string(make([]byte, 24)))
		b.fails(1, 8, tellFull, 4, 0, 1)
	}
}

func TestBoth(t *testing.T) { // 35.1, P6: likewise of both together
	b := twinsOf(t, 1, 4, 4, most-3)
	b.does(1, 5, 2, 0, 0)
	b.does(1, 8, 16, 2, 0, 16)
	b.stores(1, 0, 'a')
	b.used(1, 2)
	b.fails(1, 8, tellFull, 2, 0, 1)
	b.does(1, 11, 0, 2, 0)
	b.fails(1, 7, tellMem, 2, 16, 1)
	b.does(1, 7, 1, 2, 0, 1)
	b.does(1, 5, 3, 0, 1)
	b.fills(1, 15, "ab")
	b.stores(1, 32, 'c')
	b.used(3, 0)
	b.fails(1, 8, tellFull, 3, 0, 1)
	b.does(1, 2, 2)
	b.moves(2, store, 0, 7)
	b.ends(2, 137)
	b.moves(1, store, 48, 7)
	b.ends(1, 137)
}

func TestNoLimits(t *testing.T) { // 35.1: limits of any number
	stores := text(t, "set r4 15, storew r4 r4, set r1 0, call 5, set r1 2, set r3 9, call 8")
	for _, x := range []struct {
		l              Limits
		status, result int
	}{
		{Limits{math.MaxInt, math.MaxInt, math.MaxInt}, 0, 9},
		{Limits{2, 2, 4}, 0, 9},
		{Limits{1, math.MaxInt, math.MaxInt}, 137, 0},
		{Limits{math.MinInt, 4, 4}, 137, 0},
		{Limits{4, 4, math.MinInt}, 137, 0},
		{Limits{4, 4, -1}, 137, 0},
		{Limits{4, 4, 1}, 137, 0},
		{Limits{4, math.MinInt, 8}, 0, tellFull},
		{Limits{4, 1, 8}, 0, tellFull},
		{Limits{4, 4, 3}, 0, tellFull},
		{Limits{0, 4, 8}, 137, 0},
	} {
		m, _ := New(1, x.l, []string{stores})
		m.Step(1)
		e := m.Step(1)
		if want := (sys.Event{Kind: sys.Exited, PID: 1, Result: 137}); x.status == 137 && e != want {
			t.Errorf("%v: %v", x.l, e)
		}
		for range 5 {
			e = m.Step(1)
		}
		if want := (sys.Event{Kind: sys.Done, PID: 1, Call: 8, Result: x.result}); x.status == 0 && e != want {
			t.Errorf("%v: %v", x.l, e)
		}
	}
}

func TestSwitch(t *testing.T) { // 35.1, 35.4: from then on it answers as version 2 does; all else stays
	b := plenty(t, 1)
	b.does(1, 5, 2, 0, 0)
	b.does(1, 10, 3, 2)
	b.does(1, 9, 5*256+4)
	b.does(1, 12, 64, 2)
	b.does(1, 12, 96, 2)
	b.does(1, 13, 0, 64)
	b.does(1, 2, 2)
	b.fills(2, 15, "ab")
	b.fails(1, 17, tellCall, 0, 1)
	b.turn(2, 7, 4, 0, 1)
	b.is(b.step(2), sys.Event{Kind: sys.Blocked, PID: 2, Call: 7})
	was := b.m.View()
	b.change()
	if v := b.m.View(); !abs.Same(v, was) || b.m.Version() != 2 {
		t.Errorf("View: %v, not %v", v, was)
	}
	b.used(2, 0)
	b.shared(0, 1, 2, 3, 4, 5, 6, 7, 8, 9, 10, 11) // places are told apart still
	b.is(b.step(2), sys.Event{Kind: sys.Blocked, PID: 2, Call: 7})
	b.does(1, 11, 5, 2, 5)
	b.slots(1, 10000, 10000, 20005, 20000, 30000, 40000)
	b.does(1, 17, 0, 0, 1)
	b.does(1, 6, 0, 0)
	b.does(1, 10, 0, 3) // from then on they are shared
	b.does(1, 16, 4, 0, 4)
	b.slots(1, 20004, 10000, 20005, 20004, 30000, 40000)
	b.does(1, 2, 3)
	b.shared(0, 1, 2, 0, 4, 5, 6, 7, 8, 9, 10, 11, 0, 1, 2, 0, 4, 5)
	for range 2 {
		if e := b.m.Switch(); e != api.ErrState || b.m.Version() != 2 {
			t.Errorf("Switch: %v", e)
		}
	}
	m, _ := New(2, Limits{}, []string{""})
	if e := m.Switch(); e != api.ErrState || m.Version() != 2 {
		t.Errorf("Switch: %v", e)
	}
}

func TestNil(t *testing.T) { // a nil model: Step Idle (with the PID), Switch ErrState; nothing
	var m *Model
	for _, pid := range append([]int{0, 1, 6}, far...) {
		if e := m.Step(pid); e != (sys.Event{Kind: sys.Idle, PID: pid}) {
			t.Errorf("Step: %v", e)
		}
	}
	v := m.View()
	frames, blocks := m.Used()
	if m.Switch() != api.ErrState || m.Version() != 0 || len(v.Procs)+len(v.Files)+len(v.Pipes)+len(v.Shared) != 0 || frames != 0 || blocks != 0 {
		t.Errorf("%v, %v, %d, %d", m.Version(), v, frames, blocks)
	}
}

func TestExample(t *testing.T) { // the chapter's example: with one frame, a process that writes two pages ends with 137, in both
	for version := 1; version <= 2; version++ {
		b := twinsOf(t, version, 1, 0, 1, text(t, "set r4 15, store r4 r4, set r4 16, store r4 r4"))
		b.sets(1, own, api.CPU{})
		for range 3 {
			b.is(b.step(1), sys.Event{Kind: sys.Ran, PID: 1})
		}
		b.ends(1, 137)
		b.used(0, 0)
	}
}
