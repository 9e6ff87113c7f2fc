package snap

import (
	"slices"
	"strings"
	"testing"

	"imago/abs"
	"imago/api"
	"imago/kern"
	"imago/lang"
	"imago/sys"
	"imago/vals"
	"imago/wire"
	"imago/xform"
)

// calls is a program that has all calls to 127: call n at 2n.
func calls() string {
	var all strings.Builder
	for n := range 128 {
		all.WriteString("\x14")
		all.WriteByte(byte(n))
	}
	return all.String()
}

// programs are calls, a store of a byte, and nothing.
func programs() []string { return []string{calls(), "\x0e\x12\x00", ""} }

// start is a new system of a version, with its kernel.
func start(t *testing.T, version int) (*kern.Kernel, *sys.System) {
	t.Helper()
	k, _ := kern.New(64, 64, 4)
	if k.Open(1, version, [3]int{25, 16, 1}) != api.OK {
		t.Fatal("no machine")
	}
	s, e := sys.New(k, 1, version, programs())
	if e != api.OK {
		t.Fatal(e)
	}
	return k, s
}

// move makes a step of a process that is alive: most often a call, else a store.
func (d dice) move(t *testing.T, k *kern.Kernel, s *sys.System) *sys.System {
	t.Helper()
	st := s.State()
	if len(st.Procs) == 0 {
		return s
	}
	at := d.IntN(len(st.Procs))
	p := &st.Procs[at]
	if p.Ended {
		return s
	}
	n := []int{1, 2, 2, 2, 2, 2, 3, 4, 5, 5, 5, 6, 7, 8, 8, 8, 9, 9, 10, 10, 11, 12, 12, 12, 13, 15, 16, 17}[d.IntN(28)]
	p.Program, p.CPU.PC = 0, uint16(2*n)
	p.CPU.R = [8]uint16{d.w(), uint16(d.IntN(6)), uint16(d.IntN(64)), uint16(d.IntN(17)), d.w(), d.w(), d.w(), d.w()}
	switch {
	case d.IntN(3) == 0:
		p.Program, p.CPU.PC, p.CPU.R[1] = 1, 0, uint16(d.IntN(64))
	case n == 5:
		p.CPU.R[2] = uint16(d.IntN(2))
	case n == 12:
		p.CPU.R[1] = uint16(1 + d.IntN(4))
	case n == 17:
		p.CPU.R[1], p.CPU.R[2] = 0, 1
	}
	pid := p.PID
	s, e := sys.Load(k, 1, programs(), st)
	if e != api.OK {
		t.Fatal(e)
	}
	s.Step(pid)
	return s
}

func TestSystems(t *testing.T) { // 30.1 to 30.5: each system's state has bytes, at most Most of version 1; what is read of them is the same system, that goes on so
	versions(t, func(t *testing.T, version int) {
		longest := 0
		for seed := range uint64(24) {
			d := throw(seed)
			k, s := start(t, version)
			for range 40 {
				for range 1 + d.IntN(4) {
					s = d.move(t, k, s)
				}
				st := s.State()
				b := plainBytes(st)
				isState(t, st, b)
				longest = max(longest, len(b))
				r, _ := Read(b)
				same, e := sys.Load(k, 1, programs(), r)
				if e != api.OK || !abs.Same(abs.Of(s), abs.Of(same)) || !identical(same.State(), plainRead(st)) {
					t.Fatalf("Load: %v: %v, of %v", e, r, st)
				}
				if d.IntN(2) == 0 {
					s = same
				}
			}
		}
		if longest < 1000 {
			t.Errorf("longest: %d", longest)
		}
	})
}

func TestScriptOfSystems(t *testing.T) { // what the script makes of the value of any system of version 1 is that of a system of version 2, with the same view
	l, bad := lang.Parse(Script)
	if bad != 0 {
		t.Fatal(bad)
	}
	first, second := schema(t, 1), schema(t, 2)
	for seed := range uint64(24) {
		d := throw(seed)
		k, s := start(t, 1)
		for range 40 {
			for range 1 + d.IntN(4) {
				s = d.move(t, k, s)
			}
			v, e := Value(s.State())
			if e != api.OK {
				t.Fatal(e)
			}
			to, _, e := xform.Run(l, first, v, xform.MaxFuel)
			if e != api.OK || !vals.Fits(to, second) {
				t.Fatalf("Run: %v, %v", to, e)
			}
			b, e := wire.Bytes(wire.State{Version: 2, Type: second, Value: to})
			if e != api.OK {
				t.Fatal(e)
			}
			r, e := Read(b)
			if e != api.OK {
				t.Fatal(e)
			}
			now, e := sys.Load(k, 1, programs(), r)
			if e != api.OK || !abs.Same(abs.Of(s), abs.Of(now)) || !slices.Equal(now.State().Pages, s.State().Pages) {
				t.Fatalf("Load: %v, %v", e, r)
			}
			isState(t, now.State(), b)
		}
	}
}
