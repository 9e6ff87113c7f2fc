package sys

import (
	"strings"
	"testing"

	"imago/api"
	"imago/areas"
	"imago/code"
	"imago/spans"
)

func TestExample(t *testing.T) { // the chapter's example
	versions(t, func(t *testing.T, version int) {
		b := boxOf(t, version, 1, 1, text(t, "set r1 7, call 1"))
		b.runs(1, 1)
		b.ends(1, 7)
		b.is(b.step(1), Event{Kind: Idle, PID: 1})
	})
}

func TestExamplesOfTheWhole(t *testing.T) { // DOC.md: 6: two pages with one frame; 2: places that are doubled; 7: a pipe that is empty
	versions(t, func(t *testing.T, version int) {
		b := boxOf(t, version, 1, 1, text(t, "set r1 5, set r2 20, store r1 r1, store r2 r2"))
		b.runs(1, 3)
		b.ends(1, 137)
		b = callBox(t, version)
		b.does(1, 5, 2, 0, 0)
		b.does(1, 10, 3, 2)
		b.does(1, 11, 5, 2, 5)
		b.slots(1, 10000, 10000, 20005, of2(version, 20000, 20005))
		b = callBox(t, version)
		b.does(1, 9, 770)
		b.waits(1, 7, 2, 0, 1)
		b.does(1, 8, 1, 3, 0, 1)
		b.does(1, 7, 1, 2, 0, 1)
		b.does(1, 6, 0, 3)
		b.does(1, 7, 0, 2, 0, 1)
	})
}

func TestIdle(t *testing.T) { // 28.1: of a process that is not there, or not alive: nothing happens; R6
	versions(t, func(t *testing.T, version int) {
		b := family(t, version)
		before, memory := b.s.State(), b.memory()
		for range 2 {
			for _, pid := range append([]int{3, 5, 6}, noProcs...) {
				b.is(b.step(pid), Event{Kind: Idle, PID: pid})
				if !alike(b.s.State(), before) || b.memory() != memory {
					t.Fatalf("Step(%d): %v", pid, b.s.State())
				}
			}
		}
	})
}

func TestWent(t *testing.T) { // 28.1: one instruction of that process alone; its registers are those of cpu.Step
	versions(t, func(t *testing.T, version int) {
		b := boxOf(t, version, 2, 2, text(t, "set r1 5, mov r2 r1, add r2 r1, zero r3 on, stop, on:, other r1 more, stop, more:, mul r2 r1, jump end, stop, end:, same r4 r4"))
		b.loads(func(st *State) { st.Procs = append(st.Procs, Proc{PID: 4, Parent: 1, CPU: api.CPU{PC: 4}}) })
		b.runs(1, 8)
		st := b.s.State()
		if c := proc(st, 1).CPU; c.R != [8]uint16{0, 5, 50, 0, 1, 0, 0, 0} {
			t.Errorf("CPU: %v", c)
		}
		if p := proc(st, 4); p != (Proc{PID: 4, Parent: 1, CPU: api.CPU{PC: 4}}) {
			t.Errorf("process 4: %v", p)
		}
		b.runs(4, 1)
		if p := proc(b.s.State(), 4); p != (Proc{PID: 4, Parent: 1, CPU: api.CPU{PC: 6}}) {
			t.Errorf("process 4: %v", p)
		}
		b.ends(1, 132)
	})
}

func TestProgramOfItsOwn(t *testing.T) { // 28.1: each process does its own program's instructions
	versions(t, func(t *testing.T, version int) {
		b := boxOf(t, version, 2, 2, text(t, "set r1 1, stop"), text(t, "set r2 2, call 14, set r1 3, call 1"))
		b.loads(func(st *State) { st.Procs = append(st.Procs, Proc{PID: 2, Parent: 1, Program: 1}) })
		b.runs(1, 1)
		b.runs(2, 1)
		b.is(b.step(2), Event{Kind: Done, PID: 2, Call: 14, Result: 2})
		b.runs(2, 1)
		b.ends(2, 3)
		b.ends(1, 0)
	})
}

func TestReadsAndWrites(t *testing.T) { // 28.1: of one byte, or of two, the higher one first; at all addresses that the process has, over pages' ends, too
	versions(t, func(t *testing.T, version int) {
		b := boxOf(t, version, 20, 1, text(t, "store r1 r2"), text(t, "storew r1 r2"), text(t, "load r3 r1"), text(t, "loadw r3 r1"))
		b.loads(func(st *State) { owner(version, 1, true)(st) }) // page 9, too; in version 2 it may be read alone
		b.writes(1, 9*16, "0123456789abcdef")
		want := []byte(b.s.Memory(1))
		does := func(program, addr, value int) uint16 {
			t.Helper()
			b.sets(1, func(p *Proc) {
				p.Program, p.CPU = program, api.CPU{R: [8]uint16{1: uint16(addr), 2: uint16(value), 3: 7}}
			})
			b.runs(1, 1)
			c := proc(b.s.State(), 1).CPU
			if c.PC != 2 || c.R[1] != uint16(addr) || c.R[2] != uint16(value) || c.R[0] != 0 {
				t.Fatalf("CPU: %v", c)
			}
			if m := b.s.Memory(1); m != string(want) {
				t.Fatalf("Memory: %q, not %q", m, want)
			}
			return c.R[3]
		}
		for addr := range 64 {
			value := 0x8142 + addr*777
			want[addr] = byte(value)
			if r := does(0, addr, value); r != 7 {
				t.Fatalf("register 3: %d", r)
			}
			if addr < 63 {
				want[addr], want[addr+1] = byte(value>>8), byte(value)
				does(1, addr, value)
			}
		}
		for _, addr := range []int{0, 1, 14, 15, 16, 31, 47, 62, 63, 144, 150, 158, 159} {
			if r := does(2, addr, 0); r != uint16(want[addr]) {
				t.Errorf("load %d: %d", addr, r)
			}
			if addr != 63 && addr != 159 {
				if r := does(3, addr, 0); r != uint16(want[addr])<<8|uint16(want[addr+1]) {
					t.Errorf("loadw %d: %d", addr, r)
				}
			}
		}
	})
}

func TestReadOfNothing(t *testing.T) { // a page that was not written reads as bytes 0, and needs no frame
	versions(t, func(t *testing.T, version int) {
		b := boxOf(t, version, 0, 0, text(t, "set r1 9, loadw r1 r2, load r3 r1, set r2 63, load r3 r2"))
		b.runs(1, 5)
		if c := proc(b.s.State(), 1).CPU; c.R != [8]uint16{2: 63} || len(b.s.State().Pages) != 0 {
			t.Errorf("CPU: %v", c)
		}
	})
}

// zoned is a box of a process that has pages 0, 1, 5 and 15, and the instruction that is its next one; in version 2 page 5 may be read alone.
func zoned(t *testing.T, version int, op code.Inst, addr int) *box {
	t.Helper()
	one, e := code.Join([]code.Inst{op})
	if e != api.OK {
		t.Fatal(e)
	}
	b := boxOf(t, version, 20, 1, one)
	b.loads(func(st *State) {
		if version == 1 {
			st.Areas = []areas.Area{{PID: 1, First: 5, Count: 1}, {PID: 1, First: 0, Count: 2}, {PID: 1, First: 15, Count: 1}}
		} else {
			st.Spans = []spans.Span{{PID: 1, First: 0, Count: 2, Prot: 3}, {PID: 1, First: 5, Count: 1, Prot: 1}, {PID: 1, First: 15, Count: 1, Prot: 3}}
		}
		st.Procs[0].CPU.R[1] = uint16(addr)
	})
	return b
}

func TestFaults(t *testing.T) { // 28.1: an address that is not in an area, of each byte; to be written, in version 2, in one that is ReadWrite: 139
	versions(t, func(t *testing.T, version int) {
		read := func(a int) bool { return a < 32 || a >= 80 && a < 96 || a >= 240 && a < 256 }
		write := func(a int) bool { return read(a) && (version == 1 || a < 80 || a >= 96) }
		is := func(op, addr int, goes bool) {
			t.Helper()
			b := zoned(t, version, code.Inst{Op: op, A: 1, B: 1}, addr)
			if goes {
				b.runs(1, 1)
			} else {
				b.ends(1, 139)
			}
		}
		for i := range 300 {
			for _, addr := range []int{i, 1<<16 - 1 - i} {
				is(code.Load, addr, read(addr))
				is(code.LoadW, addr, read(addr) && read(addr+1))
				is(code.Store, addr, write(addr))
				is(code.StoreW, addr, write(addr) && write(addr+1))
			}
		}
	})
}

func TestFaultEnds(t *testing.T) { // 28.1: 139 and 137 end the process, as any end does; nothing is written
	versions(t, func(t *testing.T, version int) {
		for _, c := range []struct {
			lines  string
			status int
		}{
			{"store r1 r2", 139}, {"storew r1 r2", 139}, {"load r2 r1", 139}, {"loadw r2 r1", 139}, {"set r1 15, storew r1 r1", 137}, {"set r1 40, store r1 r1", 137}, {"set r1 7, storew r1 r1", 137},
		} {
			b := boxOf(t, version, 1, 1, text(t, c.lines), "\x14\x02")
			b.writes(1, 0, "kept")
			b.sets(1, func(p *Proc) { p.Program = 1 })
			b.is(b.step(1), Event{Kind: Done, PID: 1, Call: 2, Result: 2})
			b.sets(2, func(p *Proc) { p.Program, p.CPU = 0, api.CPU{R: [8]uint16{1: 64}} })
			if strings.HasPrefix(c.lines, "set") {
				b.runs(2, 1)
			}
			b.ends(2, c.status)
			p := proc(b.s.State(), 2)
			if !p.Ended || p.Status != c.status || p.Parent != 1 || b.s.Memory(2) != "" {
				t.Errorf("process 2: %v", p)
			}
			b.has(1, 0, "kept\x00")
			b.slots(2)
			b.zones(2)
			b.is(b.step(2), Event{Kind: Idle, PID: 2})
		}
	})
}

func TestWriteThatNeedsNoFrame(t *testing.T) { // 28.1: a frame of its own is enough, also where no other one can be got; so is the last one of a parent that ended
	versions(t, func(t *testing.T, version int) {
		b := boxOf(t, version, 1, 1, text(t, "call 2, set r1 3, store r1 r1, store r1 r1"))
		b.writes(1, 0, "abcd")
		b.is(b.step(1), Event{Kind: Done, PID: 1, Call: 2, Result: 2})
		b.runs(1, 1)
		b.runs(2, 1)
		b.ends(1, 137)
		b.runs(2, 2)
		b.has(2, 0, "abc\x03")
	})
}

func TestStopAndBad(t *testing.T) { // 28.1: Stop ends with 0, what is no instruction with 132: a byte that is none, one that is cut off, a place behind the code
	versions(t, func(t *testing.T, version int) {
		for program, status := range map[string]int{"\x00": 0, "\x15": 132, "\xff": 132, "": 132, "\x01\x10\x00": 132, "\x14": 132, "\x03\x18": 132, "\x00\x00": 0} {
			b := boxOf(t, version, 1, 1, program)
			b.ends(1, status)
			if st := b.s.State(); len(st.Procs) != 0 {
				t.Errorf("State: %v", st)
			}
		}
		for _, pc := range []uint16{1, 2, 255, 256, 65535} {
			b := boxOf(t, version, 1, 1, "\x00")
			b.sets(1, func(p *Proc) { p.CPU.PC = pc })
			b.ends(1, 132)
		}
	})
}

func TestEndOfAll(t *testing.T) { // 28.1, 28.5: the last process is gone; of frames and pipes nothing is left, files stay
	versions(t, func(t *testing.T, version int) {
		b := callBox(t, version)
		b.does(1, 9, 770)
		b.does(1, 5, 4, 1, 0)
		b.does(1, 12, 64, 3)
		b.writes(1, 60, "abcdefgh")
		b.does(1, 8, 8, 4, 60, 8)
		b.does(1, 8, 8, 3, 60, 8)
		b.exits(1, 9)
		want := State{Version: version}
		st := b.s.State()
		want.Files = st.Files
		if !alike(st, want) || len(st.Files) != 1 || b.k.Spare() != [3]int{39, 38, 4} {
			t.Errorf("State: %v, %v", st, b.k.Spare())
		}
		b.file(1, "abcdefgh")
		b.is(b.step(1), Event{Kind: Idle, PID: 1})
	})
}

func TestEndOfAChild(t *testing.T) { // 28.1: it is there, ended, with its status, until its parent waits for it; it has no descriptors, areas and pages; its parent has its own
	versions(t, func(t *testing.T, version int) {
		b := callBox(t, version)
		b.writes(1, 0, "shared")
		b.does(1, 2, 2)
		b.writes(2, 20, "own")
		b.turn(2, 1, 0xff2c)
		after := proc(b.s.State(), 2)
		after.Ended, after.Status = true, 44
		after.CPU.PC += 2
		b.ends(2, 44)
		if p := proc(b.s.State(), 2); p != after {
			t.Errorf("process 2: %v, not %v", p, after)
		}
		b.slots(2)
		b.zones(2)
		b.slots(1, 10000, 10000)
		b.zones(1, 403)
		b.has(1, 0, "shared")
		if len(b.s.State().Pages) != 1 || b.k.Spare()[0] != 38 {
			t.Errorf("pages: %v", b.s.State().Pages)
		}
		b.does(1, 2, 3) // its number is not free
		b.exits(3, 1)
		b.does(1, 3, 2*256+44)
		b.does(1, 2, 2)
	})
}

func TestEndOfAParent(t *testing.T) { // 28.1: its children have Parent 0, and are gone if they have ended; children of others stay as they are
	versions(t, func(t *testing.T, version int) {
		b := callBox(t, version)
		b.does(1, 2, 2)
		for pid := 3; pid <= 5; pid++ {
			b.does(2, 2, pid)
		}
		b.does(1, 2, 6)
		b.exits(4, 4)
		b.exits(6, 6)
		b.exits(2, 2)
		var left []Proc
		for _, p := range b.s.State().Procs {
			p.CPU = api.CPU{}
			left = append(left, p)
		}
		want := []Proc{{PID: 1}, {PID: 2, Parent: 1, Ended: true, Status: 2}, {PID: 3}, {PID: 5}, {PID: 6, Parent: 1, Ended: true, Status: 6}}
		if len(left) != len(want) {
			t.Fatalf("processes %v, not %v", left, want)
		}
		for i, p := range want {
			if left[i] != p {
				t.Errorf("process %v, not %v", left[i], p)
			}
		}
		b.fails(3, 3, tellChild)
		b.exits(5, 1) // nobody waits for it
		if p := proc(b.s.State(), 5); p != (Proc{}) {
			t.Errorf("process %v", p)
		}
		b.does(1, 3, 2*256+2)
		b.does(1, 3, 6*256+6)
		b.fails(1, 3, tellChild)
		b.exits(1, 0)
		b.does(3, 14, 3)
		b.exits(3, 0)
		if l := b.s.State().Procs; len(l) != 0 {
			t.Errorf("processes %v", l)
		}
	})
}

func TestEndOfFamiliesThatWereLoaded(t *testing.T) { // 28.3, 28.6: one that has ended may be a Parent, if it was loaded so: whoever has it as a Parent has none, when it is gone
	versions(t, func(t *testing.T, version int) {
		b := callBox(t, version)
		b.does(1, 2, 2)
		b.does(1, 2, 3)
		b.exits(2, 7)
		b.loads(func(st *State) {
			st.Procs[2].Parent = 2
			st.Procs = append(st.Procs, Proc{PID: 4, Parent: 2, Ended: true}, Proc{PID: 5, Parent: 4, Ended: true}, Proc{PID: 6, Parent: 1, Ended: true, Status: 9})
		})
		b.does(1, 3, 2*256+7)
		st := b.s.State()
		if len(st.Procs) != 3 || proc(st, 3).Parent != 0 || proc(st, 6).Parent != 1 {
			t.Errorf("processes %v", st.Procs)
		}
		b.does(1, 3, 6*256+9)
		b.fails(1, 3, tellChild)
		b = callBox(t, version)
		b.does(1, 2, 2)
		b.loads(func(st *State) { st.Procs[0].Parent = 2 }) // each is the other one's
		b.exits(1, 5)
		if p := proc(b.s.State(), 2); p.Parent != 0 || proc(b.s.State(), 1).Status != 5 {
			t.Errorf("process %v", p)
		}
		b.does(2, 3, 256+5)
		b.exits(2, 0)
		b = callBox(t, version)
		b.does(1, 2, 2)
		b.exits(2, 3)
		b.loads(func(st *State) { st.Procs[0].Parent = 2 })
		b.exits(1, 5)
		if l := b.s.State().Procs; len(l) != 0 {
			t.Errorf("processes %v", l)
		}
	})
}

func TestApart(t *testing.T) { // 28.4: a step of one process changes nothing of another one's memory, whichever call it is, whatever they share
	versions(t, func(t *testing.T, version int) {
		for n := range 20 {
			for _, args := range [][3]int{{0, 0, 8}, {2, 16, 8}, {3, 3, 5}, {1, 1, 1}, {4, 0, 16}, {64, 3, 2}} {
				b := family(t, version)
				b.writes(2, 2, "of 2's own")
				memory := b.memory()
				b.turn(1, n, args[0], args[1], args[2])
				b.step(1)
				b.turn(4, n, args[0], args[1], args[2])
				b.step(4)
				if b.s.Memory(2) != memory[1] {
					t.Errorf("call %d of %v: %q, not %q", n, args, b.s.Memory(2), memory[1])
				}
			}
		}
		b := callBox(t, version)
		b.writes(1, 0, "abc")
		b.does(1, 2, 2)
		b.writes(1, 1, "x")
		b.has(2, 0, "abc")
		b.writes(2, 2, "y")
		b.has(1, 0, "axc")
		b.has(2, 0, "aby")
		b.exits(1, 0)
		b.has(2, 0, "aby")
	})
}
