package sys

import (
	"slices"
	"strings"
	"testing"

	"imago/api"
)

// large are arguments that are too great for anything.
var large = []int{17, 255, 256, 300, 32767, 32768, 65280, 65535}

func TestOtherCalls(t *testing.T) { // the table's last line: Call, of all numbers that are no calls; in version 1 also of those of version 2
	versions(t, func(t *testing.T, version int) {
		b := callBox(t, version)
		for n := range 256 {
			if n == 0 || n > of2(version, 14, 17) {
				for _, args := range [][3]int{{0, 0, 0}, {1, 2, 3}, {0, 3, 1}, {65535, 65535, 65535}} {
					b.fails(1, n, tellCall, args[0], args[1], args[2])
				}
			}
		}
	})
}

func TestExit(t *testing.T) { // 1: ends, with the lowest 8 bits of a
	versions(t, func(t *testing.T, version int) {
		for _, a := range []int{0, 1, 127, 128, 255, 256, 257, 300, 511, 32768, 65280, 65535} {
			b := callBox(t, version)
			b.does(1, 2, 2)
			b.turn(2, 1, a, 77, 77)
			b.ends(2, a%256)
			b.does(1, 3, 512+a%256)
			b.turn(1, 1, a, 77, 77)
			b.ends(1, a%256)
		}
	})
}

func TestFork(t *testing.T) { // 2: a child with all that the process has; it gets 0, the process its number
	versions(t, func(t *testing.T, version int) {
		b := callBox(t, version)
		b.does(1, 5, 2, 3, 0)
		b.does(1, 9, 1027)
		b.does(1, 12, 64, 2)
		b.does(1, 13, 0, 0)
		b.does(1, 12, 0, 1)
		b.writes(1, 70, "bytes")
		b.does(1, 11, 7, 2, 7)
		if version == 2 {
			b.does(1, 17, 0, 64, 1)
		}
		b.turn(1, 2)
		want := proc(b.s.State(), 1)
		want.PID, want.Parent = 2, 1
		want.CPU.PC, want.CPU.R[0] = 6, 0
		b.is(b.step(1), Event{Kind: Done, PID: 1, Call: 2, Result: 2})
		st := b.s.State()
		if p := proc(st, 2); p != want {
			t.Errorf("child %v, not %v", p, want)
		}
		for pid := 1; pid <= 2; pid++ {
			b.slots(pid, 10000, 10000, 20307, 30000, 40000)
			if version == 1 {
				b.zones(pid, 40203, 103) // in the order in which they came
			} else {
				b.zones(pid, 103, 40201)
			}
			b.has(pid, 70, "bytes")
		}
		if len(st.Pages) != 2 || st.Pages[0].Frame != st.Pages[1].Frame || b.k.Spare()[0] != 38 {
			t.Errorf("pages: %v", st.Pages)
		}
		b.does(2, 11, 9, 2, 9)
		b.slots(1, 10000, 10000, of2(version, 20307, 20309), 30000, 40000)
		b.does(2, 6, 0, 0)
		b.does(2, 6, 0, 2)
		b.slots(1, 10000, 10000, of2(version, 20307, 20309), 30000, 40000)
		b.slots(2, -1, 10000, -1, 30000, 40000)
		b.does(2, 13, 0, 64)
		b.has(1, 70, "bytes")
		b.has(2, 70, "\x00\x00\x00\x00\x00")
	})
}

func TestForkNumbers(t *testing.T) { // 2: the lowest number that is free; Full, if none is: those that have ended have theirs, until they are gone
	versions(t, func(t *testing.T, version int) {
		b := callBox(t, version)
		for pid := 2; pid <= 6; pid++ {
			b.does(1, 2, pid)
			if p := proc(b.s.State(), pid); p.Parent != 1 {
				t.Errorf("child %v", p)
			}
		}
		for pid := 1; pid <= 6; pid++ {
			b.fails(pid, 2, tellFull)
		}
		b.exits(4, 1)
		b.fails(3, 2, tellFull)
		b.does(1, 3, 1025)
		b.does(3, 2, 4)
		if p := proc(b.s.State(), 4); p.Parent != 3 || p.Ended || p.Status != 0 {
			t.Errorf("child %v", p)
		}
		b.exits(1, 0)
		b.does(4, 2, 1)
		b.exits(2, 0)
		b.exits(6, 0)
		b.does(1, 2, 2)
		b.does(1, 2, 6)
		b.fails(1, 2, tellFull)
	})
}

func TestForkTakesNoFrames(t *testing.T) { // 2: pages are shared: no frame is needed
	versions(t, func(t *testing.T, version int) {
		b := boxOf(t, version, 2, 0, halves()...)
		b.writes(1, 0, "ab")
		b.writes(1, 16, "cd")
		for pid := 2; pid <= 6; pid++ {
			b.does(pid-1, 2, pid)
			b.has(pid, 0, "ab")
			b.has(pid, 16, "cd")
		}
		if b.k.Spare()[0] != 37 {
			t.Errorf("Spare: %v", b.k.Spare())
		}
		for pid := 1; pid <= 5; pid++ {
			b.exits(pid, 0)
			b.has(6, 0, "ab")
		}
		b.writes(6, 0, "x")
		b.has(6, 0, "xb")
		b.exits(6, 0)
	})
}

func TestWait(t *testing.T) { // 3: Child: none has this Parent; the lowest one that has ended is gone: its number times 256, and its status; else it is blocked
	versions(t, func(t *testing.T, version int) {
		b := callBox(t, version)
		b.fails(1, 3, tellChild)
		for pid := 2; pid <= 5; pid++ {
			b.does(1, 2, pid)
		}
		b.does(2, 2, 6)
		b.waits(1, 3)
		b.waits(2, 3)
		for _, pid := range []int{3, 4, 5, 6} {
			b.fails(pid, 3, tellChild)
		}
		b.exits(6, 66)
		b.waits(1, 3) // that is no child of it
		b.exits(5, 255)
		b.exits(3, 0)
		b.does(1, 3, 3*256)
		if p := proc(b.s.State(), 3); p != (Proc{}) {
			t.Errorf("process 3: %v", p)
		}
		b.does(1, 3, 5*256+255)
		b.waits(1, 3)
		b.does(2, 3, 6*256+66)
		b.fails(2, 3, tellChild)
		b.exits(2, 132)
		b.exits(4, 1)
		b.does(1, 3, 2*256+132)
		b.does(1, 3, 4*256+1)
		b.fails(1, 3, tellChild)
		b.does(1, 2, 2)
		b.waits(1, 3)
	})
}

func TestExec(t *testing.T) { // 4: registers are 0, areas and pages gone, 4 pages mapped, the Program is a; descriptors, files and children stay
	versions(t, func(t *testing.T, version int) {
		for a := range 4 {
			b := callBox(t, version)
			b.does(1, 2, 2)
			b.does(1, 2, 3)
			b.does(1, 5, 2, 1, 0)
			b.does(1, 9, 1027)
			b.does(1, 11, 4, 2, 4)
			b.does(1, 12, 64, 2)
			b.does(1, 12, 96, 1)
			b.does(1, 13, 0, 0)
			b.writes(1, 64, "gone")
			b.does(1, 8, 4, 2, 64, 4)
			b.writes(2, 0, "of another one")
			b.does(1, 4, 0, a)
			p := proc(b.s.State(), 1)
			if p != (Proc{PID: 1, Program: a}) {
				t.Errorf("process 1: %v", p)
			}
			b.zones(1, 403)
			b.zones(2, 403)
			b.slots(1, 10000, 10000, 20108, 30000, 40000)
			if b.s.Memory(1) != string(make([]byte, 256)) || b.k.Spare()[0] != 38 {
				t.Errorf("Memory: %q", b.s.Memory(1))
			}
			b.has(2, 0, "of another one")
			b.file(1, "\x00\x00\x00\x00gone")
			b.exits(3, 9)
			b.does(1, 3, 3*256+9)
			b.waits(1, 3)
		}
	})
}

func TestExecGoesOn(t *testing.T) { // 4: at the beginning of the program, which counts from then on, of children, too
	versions(t, func(t *testing.T, version int) {
		b := boxOf(t, version, 1, 1, text(t, "set r1 2, set r7 7, call 4, stop"), text(t, "stop"), text(t, "call 2, call 14"))
		b.runs(1, 2)
		b.is(b.step(1), Event{Kind: Done, PID: 1, Call: 4})
		b.is(b.step(1), Event{Kind: Done, PID: 1, Call: 2, Result: 2})
		b.is(b.step(1), Event{Kind: Done, PID: 1, Call: 14, Result: 1})
		b.is(b.step(2), Event{Kind: Done, PID: 2, Call: 14, Result: 2})
		if p := proc(b.s.State(), 2); p.Program != 2 || p.CPU.R != [8]uint16{2} {
			t.Errorf("process 2: %v", p)
		}
	})
}

func TestExecNone(t *testing.T) { // 4: None: no program a
	versions(t, func(t *testing.T, version int) {
		b := callBox(t, version)
		for _, a := range append([]int{4, 5, 8}, large...) {
			b.fails(1, 4, tellNone, a)
		}
	})
}

func TestOpen(t *testing.T) { // 5: a descriptor, in the lowest free slot; the file is made, if it is not there, and cut, if b is 1
	versions(t, func(t *testing.T, version int) {
		b := callBox(t, version)
		b.writes(1, 0, "0123456789")
		b.does(1, 5, 2, 3, 0)
		b.file(3, "")
		b.does(1, 8, 10, 2, 0, 10)
		b.does(1, 5, 3, 3, 0) // as it is, with a place of its own
		b.slots(1, 10000, 10000, 20310, 20300)
		b.file(3, "0123456789")
		b.does(1, 6, 0, 0)
		b.does(1, 5, 0, 0, 1) // one that is not there may be cut
		b.slots(1, 20000, 10000, 20310, 20300)
		b.file(0, "")
		if _, e := b.s.File(1); e != api.ErrNone {
			t.Error(e)
		}
		b.does(1, 5, 4, 3, 1)
		b.file(3, "")
		if b.k.Spare()[1] != 39 {
			t.Errorf("Spare: %v", b.k.Spare())
		}
		b.slots(1, 20000, 10000, 20310, 20300, 20300) // places stay
		b.does(1, 7, 0, 2, 0, 5)
		b.does(1, 8, 2, 2, 0, 2)
		b.file(3, strings.Repeat("\x00", 10)+"01")
		b.exits(1, 0)
		b.file(3, strings.Repeat("\x00", 10)+"01")
	})
}

func TestOpenWrong(t *testing.T) { // 5: None: no file's number a; Arg: b above 1; Full: no slot: in that order; no file is made or cut
	versions(t, func(t *testing.T, version int) {
		b := callBox(t, version)
		b.writes(1, 0, "kept")
		b.does(1, 5, 2, 2, 0)
		b.does(1, 8, 4, 2, 0, 4)
		for range 2 {
			for _, a := range append([]int{4, 5}, large...) {
				for _, how := range []int{0, 1, 2, 65535} {
					b.fails(1, 5, tellNone, a, how)
				}
			}
			for a := range 4 {
				for _, how := range append([]int{2, 3}, large...) {
					b.fails(1, 5, tellArg, a, how)
				}
			}
			for a := range 4 { // then slots are full
				if b.s.either.refs(api.File, 2) == 4 {
					b.fails(1, 5, tellFull, a, 0)
					b.fails(1, 5, tellFull, a, 1)
				}
			}
			for b.s.either.refs(api.File, 2) < 4 {
				b.does(1, 10, 2+b.s.either.refs(api.File, 2), 2)
			}
		}
		b.file(2, "kept")
	})
}

func TestClose(t *testing.T) { // 6: Arg: no descriptor a; 0, and it is gone
	versions(t, func(t *testing.T, version int) {
		b := callBox(t, version)
		b.does(1, 5, 2, 1, 0)
		b.does(1, 10, 3, 2)
		b.does(1, 2, 2)
		for _, a := range append([]int{4, 5, 6, 7}, large...) {
			b.fails(1, 6, tellArg, a)
		}
		for _, a := range []int{2, 0, 3, 1} {
			b.does(1, 6, 0, a)
			b.fails(1, 6, tellArg, a)
		}
		b.slots(1)
		b.slots(2, 10000, 10000, 20100, 20100)
		b.file(1, "")
		b.does(1, 5, 0, 1, 0)
		b.slots(1, 20100)
	})
}

func TestPipesClose(t *testing.T) { // a pipe is closed when no descriptor names an end of it: be it closed, or its process ended, or (version 2) its slot another one's
	versions(t, func(t *testing.T, version int) {
		b := callBox(t, version)
		b.does(1, 9, 770)
		b.does(1, 9, 1284)
		b.does(1, 8, 2, 5, 0, 2)
		b.does(1, 6, 0, 2)
		b.pipes(2)
		b.does(1, 6, 0, 3)
		b.pipes(1)
		b.pipe(1, "\x00\x00")
		b.does(1, 2, 2)
		b.does(1, 6, 0, 5)
		b.does(1, 6, 0, 4)
		b.pipe(1, "\x00\x00")
		b.does(2, 6, 0, 5)
		b.pipe(1, "\x00\x00")
		b.does(1, 9, 770) // of the lowest number, and empty
		b.pipe(0, "")
		b.exits(2, 0)
		b.pipes(1)
		b.pipe(0, "")
		b.exits(1, 0)
		b.pipes(0)
	})
	b := callBox(t, 2)
	b.does(1, 9, 770)
	b.does(1, 15, 2, 3, 2)
	b.pipes(1)
	b.does(1, 15, 2, 2, 2)
	b.does(1, 15, 5, 2, 5)
	b.pipes(1)
	b.does(1, 15, 3, 0, 3)
	b.does(1, 15, 2, 0, 2)
	b.slots(1, 10000, 10000, 10000, 10000, -1, 40000)
	b.pipes(1)
	b.does(1, 15, 5, 0, 5)
	b.pipes(0)
}

func TestRead(t *testing.T) { // 7: of a File, from its place on, c bytes at most; they stand at b; its place is so much further
	versions(t, func(t *testing.T, version int) {
		b := callBox(t, version)
		b.writes(1, 0, "0123456789abcdefghijklmnopqrstuv")
		b.does(1, 5, 2, 1, 0)
		b.does(1, 8, 16, 2, 0, 16)
		b.does(1, 8, 4, 2, 16, 4)
		b.does(1, 5, 3, 1, 0)
		b.does(1, 7, 5, 3, 40, 5)
		b.has(1, 38, "\x00\x0001234\x00")
		b.slots(1, 10000, 10000, 20120, 20105)
		b.does(1, 7, 15, 3, 30, 16)
		b.has(1, 29, "t56789abcdefghij\x00")
		b.slots(1, 10000, 10000, 20120, 20120)
		b.does(1, 7, 0, 3, 30, 16)
		b.has(1, 29, "t56789abcdefghij\x00")
		b.does(1, 11, 15, 3, 15)
		b.does(1, 7, 5, 3, 48, 16) // fewer than c: what is behind them stays
		b.writes(1, 53, "xyz")
		b.does(1, 11, 18, 3, 18)
		b.does(1, 7, 2, 3, 48, 8)
		b.has(1, 48, "ijhijxyz")
		b.does(1, 11, 0, 3, 0)
		b.does(1, 7, 0, 3, 0, 0)
		b.slots(1, 10000, 10000, 20120, 20100)
		b.does(1, 11, 32, 3, 32)
		b.does(1, 7, 0, 3, 0, 16)
		b.slots(1, 10000, 10000, 20120, 20132)
	})
}

func TestReadConsole(t *testing.T) { // 7: of a Console 0; memory stays, and no frame is needed
	versions(t, func(t *testing.T, version int) {
		b := boxOf(t, version, 0, 0, halves()...)
		for c := range 17 {
			b.does(1, 7, 0, 0, 48, c)
			b.does(1, 7, 0, 1, 0, c)
		}
		b.slots(1, 10000, 10000)
	})
}

func TestReadPipe(t *testing.T) { // 7: of a Reader what waits, c bytes at most; with none: 0, if there is no Writer, else it is blocked
	versions(t, func(t *testing.T, version int) {
		b := callBox(t, version)
		b.writes(1, 0, "0123456789abcdef")
		b.does(1, 9, 770)
		b.does(1, 2, 2)
		for c := range 17 {
			b.waits(2, 7, 2, 20, c)
			b.waits(1, 7, 2, 20, c)
		}
		b.does(1, 8, 10, 3, 0, 10)
		b.does(2, 7, 0, 2, 20, 0)
		b.does(2, 7, 4, 2, 20, 4)
		b.has(2, 19, "\x000123\x00")
		b.pipe(0, "456789")
		b.does(1, 8, 3, 3, 10, 3)
		b.does(2, 7, 9, 2, 30, 16)
		b.has(2, 29, "\x00456789abc\x00")
		b.pipe(0, "")
		b.has(1, 20, "\x00")
		b.does(1, 8, 2, 3, 0, 2)
		b.does(1, 6, 0, 3)
		b.does(2, 7, 1, 2, 20, 1)
		b.does(2, 7, 1, 2, 20, 5)
		b.waits(2, 7, 2, 20, 5) // it is a Writer itself
		b.does(2, 6, 0, 3)
		for c := range 17 {
			b.does(2, 7, 0, 2, 20, c)
			b.does(1, 7, 0, 2, 20, c)
		}
		b.slots(2, 10000, 10000, 30000)
		b.has(2, 20, "1123\x00")
	})
}

func TestReadWriterElsewhere(t *testing.T) { // 7: a Writer of its pipe, not of another one
	versions(t, func(t *testing.T, version int) {
		b := callBox(t, version)
		b.does(1, 9, 770)
		b.does(1, 9, 1284)
		b.does(1, 6, 0, 3)
		b.does(1, 7, 0, 2, 0, 1)
		b.waits(1, 7, 4, 0, 1)
		b.does(1, 8, 1, 5, 0, 1)
		b.does(1, 7, 0, 2, 0, 1)
		b.does(1, 6, 0, 5)
		b.does(1, 7, 1, 4, 0, 1)
		b.does(1, 7, 0, 4, 0, 1)
	})
}

func TestReadWrong(t *testing.T) { // 7: Arg: no descriptor; c above 16; a Writer; bytes that it may not write, all c of them, be there so many or not
	versions(t, func(t *testing.T, version int) {
		b := callBox(t, version)
		b.does(1, 9, 770) // slots: Console, Console, Reader, Writer, File
		b.does(1, 5, 4, 0, 0)
		b.does(1, 8, 3, 4, 0, 3)
		b.does(1, 11, 0, 4, 0)
		b.does(1, 8, 2, 3, 0, 2)
		for _, a := range append([]int{5, 6, 7}, large...) {
			b.fails(1, 7, tellArg, a, 0, 1)
			b.fails(1, 7, tellArg, a, 0, 0)
		}
		for c := range 17 {
			b.fails(1, 7, tellArg, 3, 0, c)
		}
		for _, a := range []int{0, 1, 2, 4} {
			for _, c := range large {
				b.fails(1, 7, tellArg, a, 0, c)
			}
			for c := 1; c <= 16; c++ {
				b.fails(1, 7, tellArg, a, 65-c, c)
				b.fails(1, 7, tellArg, a, 64, c)
				b.fails(1, 7, tellArg, a, 256, c)
				b.fails(1, 7, tellArg, a, 65536-c, c)
				b.fails(1, 7, tellArg, a, 65535, c)
			}
		}
		b.does(1, 7, 0, 0, 48, 16)
		b.does(1, 7, 3, 4, 48, 16)
		b.does(1, 7, 2, 2, 62, 2)
	})
}

func TestNoBytesAnywhere(t *testing.T) { // 7, 8: of no bytes each is such as it may write, or read, wherever b is
	versions(t, func(t *testing.T, version int) {
		b := boxOf(t, version, 0, 0, halves()...)
		b.does(1, 9, 770)
		b.does(1, 5, 4, 0, 0)
		for _, addr := range append([]int{0, 63, 64}, large...) {
			b.does(1, 7, 0, 0, addr, 0)
			b.does(1, 8, 0, 1, addr, 0)
			b.does(1, 7, 0, 4, addr, 0)
			b.does(1, 8, 0, 4, addr, 0)
			b.does(1, 8, 0, 3, addr, 0)
			b.waits(1, 7, 2, addr, 0)
		}
		b.does(1, 6, 0, 3)
		b.does(1, 7, 0, 2, 65535, 0)
		b.slots(1, 10000, 10000, 30000, -1, 20000)
	})
}

func TestReadProtected(t *testing.T) { // 7, version 2: in spans that are ReadWrite alone; 8: in all
	b := callBox(t, 2)
	b.does(1, 12, 64, 2)
	b.writes(1, 60, "0123456789")
	b.does(1, 17, 0, 64, 1)
	b.does(1, 5, 2, 0, 0)
	b.does(1, 8, 10, 2, 60, 10)
	b.file(0, "0123456789")
	b.does(1, 11, 0, 2, 0)
	for c := 1; c <= 16; c++ {
		b.fails(1, 7, tellArg, 2, 65-c, c)
		b.fails(1, 7, tellArg, 2, 80, c)
		b.fails(1, 7, tellArg, 0, 64, c)
	}
	b.does(1, 7, 4, 2, 60, 4)
	b.does(1, 17, 0, 64, 3)
	b.does(1, 7, 6, 2, 60, 8)
	b.has(1, 60, "4567896789")
}

func TestReadMem(t *testing.T) { // 7: Mem: a frame cannot be got: bytes wait still, the place is where it was
	versions(t, func(t *testing.T, version int) {
		b := boxOf(t, version, 1, 4, halves()...)
		b.writes(1, 0, "0123456789abcdef")
		b.does(1, 5, 2, 0, 0)
		b.does(1, 8, 8, 2, 0, 8)
		b.does(1, 11, 2, 2, 2)
		b.does(1, 9, 1027)
		b.does(1, 8, 5, 4, 3, 5)
		for _, slot := range []int{2, 3} {
			b.fails(1, 7, tellMem, slot, 16, 1)
			b.fails(1, 7, tellMem, slot, 15, 2)
			b.fails(1, 7, tellMem, slot, 12, 16)
			b.fails(1, 7, tellMem, slot, 40, 16)
		}
		b.does(1, 7, 0, 2, 16, 0)
		b.pipe(0, "34567")
		b.slots(1, 10000, 10000, 20002, 30000, 40000)
		b.does(1, 7, 5, 3, 11, 16) // what is read fits the page that is there
		b.has(1, 8, "89a34567")
		b.does(1, 7, 6, 2, 2, 16)
		b.has(1, 0, "01234567")
		b.slots(1, 10000, 10000, 20008, 30000, 40000)
		b.does(1, 7, 0, 2, 16, 16) // nothing is read: no frame is needed
		b.waits(1, 7, 3, 16, 16)
		b.does(1, 2, 2) // a page that is shared needs a frame of its own
		b.does(1, 11, 0, 2, 0)
		b.fails(1, 7, tellMem, 2, 0, 1)
		b.exits(2, 0)
		b.does(1, 7, 1, 2, 0, 1)
	})
}

func TestWriteConsole(t *testing.T) { // 8: output: the bytes from b on; c
	versions(t, func(t *testing.T, version int) {
		b := callBox(t, version)
		b.writes(1, 8, "hello, \x00world\xff!")
		for c := range 15 {
			b.puts("hello, \x00world\xff!\x00"[:c], 1, 8, c, c%2, 8, c)
		}
		b.puts("lo, \x00", 1, 8, 5, 0, 11, 5)
		b.puts("\x00\x00", 1, 8, 2, 1, 62, 2)
		b.does(1, 10, 2, 1)
		b.puts("h", 1, 8, 1, 2, 8, 1)
		b.does(1, 2, 2)
		b.puts("ell", 2, 8, 3, 2, 9, 3)
		b.slots(1, 10000, 10000, 10000)
	})
}

func TestWriteFile(t *testing.T) { // 8: at its place, which is so much further; Full: files.Write's error, with nothing written
	versions(t, func(t *testing.T, version int) {
		b := boxOf(t, version, 4, 3, halves()...)
		b.writes(1, 0, "0123456789abcdef")
		b.does(1, 5, 2, 3, 0)
		b.does(1, 8, 3, 2, 4, 3)
		b.slots(1, 10000, 10000, 20303)
		b.does(1, 8, 2, 2, 0, 2)
		b.file(3, "45601")
		b.does(1, 11, 1, 2, 1)
		b.does(1, 8, 2, 2, 10, 2)
		b.file(3, "4ab01")
		b.does(1, 11, 8, 2, 8)
		b.does(1, 8, 1, 2, 15, 1)
		b.file(3, "4ab01\x00\x00\x00f")
		b.does(1, 5, 3, 0, 0)
		b.does(1, 8, 8, 3, 0, 8)
		b.fails(1, 8, tellFull, 3, 0, 1) // no block
		b.does(1, 11, 32, 2, 32)
		b.fails(1, 8, tellFull, 2, 0, 1) // more than MaxFile
		b.does(1, 8, 0, 2, 0, 0)
		b.does(1, 11, 17, 2, 17)
		b.fails(1, 8, tellFull, 2, 0, 16)
		b.fails(1, 8, tellFull, 2, 0, 15)
		b.does(1, 11, 15, 2, 15)
		b.does(1, 8, 1, 2, 0, 1)
		b.slots(1, 10000, 10000, 20316, 20008)
		b.does(1, 5, 4, 3, 1)
		b.does(1, 8, 16, 4, 0, 16) // blocks that were cut
		b.fails(1, 8, tellFull, 3, 0, 1)
		b.file(0, "01234567")
	})
}

func TestWriteWholeFile(t *testing.T) { // 8: up to MaxFile bytes, and no further
	versions(t, func(t *testing.T, version int) {
		b := callBox(t, version)
		b.writes(1, 0, "0123456789abcdef")
		b.does(1, 5, 2, 0, 0)
		b.does(1, 8, 16, 2, 0, 16)
		b.does(1, 8, 9, 2, 0, 9)
		for c := 8; c <= 16; c++ {
			b.fails(1, 8, tellFull, 2, 0, c)
		}
		b.does(1, 8, 7, 2, 0, 7)
		b.fails(1, 8, tellFull, 2, 0, 1)
		b.file(0, "0123456789abcdef0123456780123456")
		b.slots(1, 10000, 10000, 20032)
	})
}

func TestWritePipe(t *testing.T) { // 8: Pipe: no Reader of its pipe; blocked, if there is no room for all; else they wait
	versions(t, func(t *testing.T, version int) {
		b := callBox(t, version)
		b.writes(1, 0, "0123456789abcdef")
		b.does(1, 9, 770)
		b.does(1, 9, 1284)
		b.does(1, 8, 16, 3, 0, 16)
		b.waits(1, 8, 3, 0, 1)
		b.does(1, 8, 0, 3, 0, 0)
		b.does(1, 7, 5, 2, 20, 5)
		for c := 6; c <= 16; c++ {
			b.waits(1, 8, 3, 0, c)
		}
		b.does(1, 8, 5, 3, 2, 5)
		b.pipe(0, "56789abcdef23456")
		b.pipe(1, "")
		b.does(1, 2, 2)
		b.does(1, 6, 0, 2)
		b.waits(1, 8, 3, 0, 1)
		b.does(2, 6, 0, 2)
		for c := range 17 { // be there room or not
			b.fails(1, 8, tellPipe, 3, 0, c)
			b.fails(2, 8, tellPipe, 3, 0, c)
		}
		b.does(1, 8, 1, 5, 0, 1)
		b.pipe(1, "0")
		b.does(2, 7, 1, 4, 20, 1)
		b.does(1, 6, 0, 4)
		b.does(2, 6, 0, 4)
		b.fails(1, 8, tellPipe, 5, 0, 1)
		b.pipe(0, "56789abcdef23456")
	})
}

func TestWriteWrong(t *testing.T) { // 8: Arg: no descriptor; c above 16; a Reader; bytes that it may not read
	versions(t, func(t *testing.T, version int) {
		b := callBox(t, version)
		b.does(1, 9, 770) // slots: Console, Console, Reader, Writer, File
		b.does(1, 5, 4, 0, 0)
		for _, a := range append([]int{5, 6, 7}, large...) {
			b.fails(1, 8, tellArg, a, 0, 1)
			b.fails(1, 8, tellArg, a, 0, 0)
		}
		for c := range 17 {
			b.fails(1, 8, tellArg, 2, 0, c)
		}
		for _, a := range []int{0, 1, 3, 4} {
			for _, c := range large {
				b.fails(1, 8, tellArg, a, 0, c)
			}
			for c := 1; c <= 16; c++ {
				b.fails(1, 8, tellArg, a, 65-c, c)
				b.fails(1, 8, tellArg, a, 64, c)
				b.fails(1, 8, tellArg, a, 256, c)
				b.fails(1, 8, tellArg, a, 65536-c, c)
				b.fails(1, 8, tellArg, a, 65535, c)
			}
		}
		b.does(1, 6, 0, 2)
		b.fails(1, 8, tellArg, 3, 60, 5) // Arg comes ahead of Pipe, and of a wait
		b.fails(1, 8, tellPipe, 3, 60, 4)
		b.does(1, 11, 32, 4, 32)
		b.fails(1, 8, tellArg, 4, 60, 5)
		b.fails(1, 8, tellFull, 4, 60, 4)
	})
}

func TestWriteNeedsNoFrame(t *testing.T) { // 8: pages that are not there are bytes 0
	versions(t, func(t *testing.T, version int) {
		b := boxOf(t, version, 0, 1, halves()...)
		b.does(1, 5, 2, 0, 0)
		b.does(1, 8, 5, 2, 14, 5)
		b.file(0, "\x00\x00\x00\x00\x00")
		b.puts(string(make([]byte, 16)), 1, 8, 16, 0, 48, 16)
	})
}

func TestPipe(t *testing.T) { // 9: a Reader, then a Writer: its slot, and 256 times the other's
	versions(t, func(t *testing.T, version int) {
		b := callBox(t, version)
		b.does(1, 9, 770)
		b.slots(1, 10000, 10000, 30000, 40000)
		b.does(1, 6, 0, 0)
		b.does(1, 9, 4*256)
		b.slots(1, 30100, 10000, 30000, 40000, 40100)
		b.pipe(0, "")
		b.pipe(1, "")
		b.does(1, 6, 0, 2)
		b.does(1, 6, 0, 3)
		b.does(1, 9, 770) // the lowest number
		b.pipe(0, "")
		b.slots(1, 30100, 10000, 30000, 40000, 40100)
	})
}

func TestPipeFull(t *testing.T) { // 9: Full: no pipe, or not two slots; nothing is left of it
	versions(t, func(t *testing.T, version int) {
		b := callBox(t, version)
		b.does(1, 9, 770)
		b.does(1, 9, 1284)
		b.fails(1, 9, tellFull) // no slot
		b.does(1, 6, 0, 0)
		b.fails(1, 9, tellFull) // one slot
		b.does(1, 6, 0, 5)
		b.does(1, 6, 0, 4)
		b.does(1, 9, 1024)
		b.does(1, 2, 2)
		b.does(2, 6, 0, 1)
		b.does(2, 9, 5*256+1)
		b.pipes(3)
		b.does(1, 6, 0, 1)
		b.fails(1, 9, tellFull) // no pipe
		b.exits(2, 0)
		b.does(1, 9, 5*256+1)
	})
}

func TestDup(t *testing.T) { // 10: Arg: no descriptor a; Full; the lowest free slot: in version 1 with a place of its own, in version 2 with the same one
	versions(t, func(t *testing.T, version int) {
		b := callBox(t, version)
		b.does(1, 9, 770)
		b.does(1, 5, 4, 2, 0)
		b.does(1, 11, 5, 4, 5)
		for _, a := range append([]int{5, 6, 7}, large...) {
			b.fails(1, 10, tellArg, a)
		}
		b.does(1, 10, 5, 4)
		b.slots(1, 10000, 10000, 30000, 40000, 20205, 20205)
		b.does(1, 11, 9, 5, 9)
		b.slots(1, 10000, 10000, 30000, 40000, of2(version, 20205, 20209), 20209)
		for a := range 6 {
			b.fails(1, 10, tellFull, a)
		}
		for _, a := range append([]int{6, 7}, large...) { // Arg comes ahead of Full
			b.fails(1, 10, tellArg, a)
		}
		b.does(1, 6, 0, 0)
		b.does(1, 10, 0, 3)
		b.slots(1, 40000, 10000, 30000, 40000, of2(version, 20205, 20209), 20209)
		b.does(1, 6, 0, 3)
		b.waits(1, 7, 2, 0, 1) // there is a Writer still
		b.does(1, 6, 0, 0)
		b.does(1, 7, 0, 2, 0, 1)
	})
}

func TestSeek(t *testing.T) { // 11: Arg: no descriptor, no File, b above MaxFile; its place is b: b
	versions(t, func(t *testing.T, version int) {
		b := callBox(t, version)
		b.does(1, 9, 770)
		b.does(1, 5, 4, 0, 0)
		for off := range 33 {
			b.does(1, 11, off, 4, off)
			b.slots(1, 10000, 10000, 30000, 40000, 20000+off)
		}
		for _, off := range append([]int{33, 34}, large[1:]...) {
			b.fails(1, 11, tellArg, 4, off)
		}
		for _, a := range append([]int{0, 1, 2, 3, 5, 6, 7}, large...) {
			for _, off := range []int{0, 1, 32, 33} {
				b.fails(1, 11, tellArg, a, off)
			}
		}
		b.slots(1, 10000, 10000, 30000, 40000, 20032)
	})
}

func TestMap(t *testing.T) { // 12: Arg: a not from 1 to Pages; Full; FrameSize times the first page
	versions(t, func(t *testing.T, version int) {
		for a := 1; a <= 12; a++ {
			b := callBox(t, version)
			b.does(1, 12, 64, a)
			b.zones(1, 403, 40003+a*100)
			b.fails(1, 12, tellFull, 13-a)
			if a < 12 {
				b.does(1, 12, 64+16*a, 12-a)
			}
		}
		b := callBox(t, version)
		for range 2 {
			for _, a := range append([]int{0}, large...) {
				b.fails(1, 12, tellArg, a)
			}
			for a := 13; a <= 16; a++ {
				b.fails(1, 12, tellFull, a)
			}
		}
		for i := range 3 {
			b.does(1, 12, 64+16*i, 1)
		}
		for a := 1; a <= 16; a++ { // MaxAreas
			b.fails(1, 12, tellFull, a)
		}
		for _, a := range append([]int{0}, large...) {
			b.fails(1, 12, tellArg, a)
		}
		b.does(1, 13, 0, 0)
		b.does(1, 12, 0, 3)
		b.has(1, 0, "\x00")
	})
}

func TestMapAll(t *testing.T) { // 12: all 16 pages, to the last address
	versions(t, func(t *testing.T, version int) {
		b := callBox(t, version)
		b.does(1, 13, 0, 0)
		b.does(1, 12, 0, 16)
		b.does(1, 5, 2, 0, 0)
		b.writes(1, 240, "0123456789abcdef")
		b.does(1, 8, 16, 2, 240, 16)
		b.does(1, 11, 0, 2, 0)
		b.does(1, 7, 16, 2, 239, 16)
		b.has(1, 239, "0123456789abcdeff")
		b.fails(1, 8, tellArg, 2, 241, 16)
	})
}

func TestUnmap(t *testing.T) { // 13: Arg: no area begins at a; its pages are gone, those alone
	versions(t, func(t *testing.T, version int) {
		b := callBox(t, version)
		b.does(1, 12, 64, 3)
		b.does(1, 12, 112, 1)
		b.writes(1, 60, strings.Repeat("x", 60))
		b.does(1, 2, 2)
		for a := range 256 {
			if a != 0 && a != 64 && a != 112 {
				b.fails(1, 13, tellArg, a)
			}
		}
		for _, a := range append([]int{256, 4096, 65520, 64 + 4096}, large...) {
			b.fails(1, 13, tellArg, a)
		}
		b.does(1, 13, 0, 64)
		b.zones(1, 403, 70103)
		b.has(1, 60, "xxxx"+string(make([]byte, 48))+"xxxxxxxx")
		b.has(2, 60, strings.Repeat("x", 60))
		b.fails(1, 13, tellArg, 64)
		if l := b.s.State().Pages; len(l) != 7 || b.k.Spare()[0] != 34 {
			t.Errorf("pages: %v", l)
		}
		b.does(2, 13, 0, 64)
		if l := b.s.State().Pages; len(l) != 4 || b.k.Spare()[0] != 37 {
			t.Errorf("pages: %v", l)
		}
		b.does(1, 12, 64, 2) // bytes 0 stand there then
		b.has(1, 60, "xxxx"+string(make([]byte, 48))+"xxxxxxxx")
		b.does(1, 13, 0, 0)
		b.does(1, 13, 0, 112)
		b.does(1, 13, 0, 64)
		b.zones(1)
		b.fails(1, 8, tellArg, 0, 0, 1)
		b.zones(2, 403, 70103)
	})
}

func TestPid(t *testing.T) { // 14: its number
	versions(t, func(t *testing.T, version int) {
		b := callBox(t, version)
		for pid := 2; pid <= 6; pid++ {
			b.does(1, 2, pid)
		}
		for pid := 1; pid <= 6; pid++ {
			b.does(pid, 14, pid)
			b.does(pid, 14, pid, 3, 4, 5)
		}
	})
}

func TestDup2(t *testing.T) { // 15, version 2: Arg: no descriptor a, or no slot b; slot b names the same: b
	b := callBox(t, 2)
	b.does(1, 9, 770)
	b.does(1, 5, 4, 2, 0)
	for _, a := range append([]int{5, 6, 7}, large...) {
		b.fails(1, 15, tellArg, a, 0)
		b.fails(1, 15, tellArg, a, 6)
	}
	for a := range 5 {
		for _, to := range append([]int{6, 7}, large...) {
			b.fails(1, 15, tellArg, a, to)
		}
		b.does(1, 15, a, a, a)
	}
	b.slots(1, 10000, 10000, 30000, 40000, 20200)
	b.does(1, 15, 5, 4, 5)
	b.does(1, 15, 0, 4, 0)
	b.does(1, 11, 7, 0, 7)
	b.slots(1, 20207, 10000, 30000, 40000, 20207, 20207)
	_, shared := holds(b.s.State())
	if !slices.Equal(shared, []int{0, 1, 2, 3, 0, 0}) {
		t.Errorf("shared: %v", shared)
	}
	b.does(1, 6, 0, 4)
	b.does(1, 15, 5, 2, 5)
	b.slots(1, 20207, 10000, 30000, 40000, -1, 30000)
}

func TestSkip(t *testing.T) { // 16, version 2: Arg: no descriptor a, no File, or a place that is not from 0 to MaxFile; its place, which is moved by a number with a sign
	b := callBox(t, 2)
	b.does(1, 9, 770)
	b.does(1, 5, 4, 0, 0)
	for _, c := range [][2]int{{0, 0}, {5, 5}, {32, 37}, {32, 0}, {33, 1}, {0, -32}, {65535, -1}, {31, 31}, {32, 1}, {31, -1}, {65535, -32}, {0, -31}, {65535, -1}, {65535, 33}, {32, 32}, {65535, 1}, {65535, 32767}, {65535, -32768}, {16, -16}} {
		at := placeOf(b, 4)
		want := at + c[1]
		if want < 0 || want > 32 {
			b.fails(1, 16, tellArg, 4, c[1]&65535)
			continue
		}
		b.does(1, 16, want, 4, c[1]&65535)
		b.slots(1, 10000, 10000, 30000, 40000, 20000+want)
	}
	for _, a := range append([]int{0, 1, 2, 3, 5, 6, 7}, large...) {
		for _, by := range []int{0, 1, 65535} {
			b.fails(1, 16, tellArg, a, by)
		}
	}
	for from := range 33 {
		for to := -2; to <= 35; to++ {
			b.does(1, 11, from, 4, from)
			if to < 0 || to > 32 {
				b.fails(1, 16, tellArg, 4, (to-from)&65535)
			} else {
				b.does(1, 16, to, 4, (to-from)&65535)
			}
		}
	}
	b.does(1, 11, 5, 4, 5)
	b.does(1, 10, 5, 4)
	b.does(1, 16, 6, 5, 1)
	b.slots(1, 10000, 10000, 30000, 40000, 20006, 20006)
}

// placeOf is the place of a descriptor of process 1.
func placeOf(b *box, slot int) int {
	l, _ := holds(b.s.State())
	for _, h := range l {
		if h.pid == 1 && h.slot == slot {
			return h.off
		}
	}
	return 0
}

func TestProtect(t *testing.T) { // 17, version 2: Arg: no area begins at a, or b is no Prot; 0
	b := callBox(t, 2)
	b.does(1, 12, 64, 2)
	b.does(1, 2, 2)
	for a := range 256 {
		if a != 0 && a != 64 {
			b.fails(1, 17, tellArg, a, 1)
			b.fails(1, 17, tellArg, a, 3)
		}
	}
	for _, a := range append([]int{256, 4096, 65520, 64 + 4096}, large...) {
		b.fails(1, 17, tellArg, a, 1)
	}
	for _, prot := range append([]int{0, 2, 4, 5}, large...) {
		b.fails(1, 17, tellArg, 64, prot)
	}
	b.does(1, 17, 0, 64, 1)
	b.zones(1, 403, 40201)
	b.zones(2, 403, 40203)
	b.does(1, 17, 0, 0, 1)
	b.does(1, 17, 0, 64, 3)
	b.zones(1, 401, 40203)
	b.does(1, 17, 0, 0, 1)
	b.does(1, 2, 3)
	b.zones(3, 401, 40203)
	b.does(1, 4, 0, 0) // exec
	b.zones(1, 403)
}
