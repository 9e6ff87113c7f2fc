package rest

import (
	"cmp"
	"slices"
	"strings"
	"testing"

	"imago/abs"
	"imago/api"
	"imago/opens"
	"imago/snap"
	"imago/spans"
	"imago/sys"
	"imago/types"
	"imago/vals"
	"imago/wire"
)

// value is any value that fits a right type.
func (d dice) value(t types.Type) vals.Value {
	v := vals.Value{Kind: t.Kind}
	switch t.Kind {
	case types.Int:
		v.N = d.IntN(1 << t.N)
		if d.IntN(3) == 0 {
			v.N = d.IntN(4)
		}
	case types.Text:
		v.S = strings.Repeat("\x80", d.IntN(t.N+1))
	case types.List:
		for range d.IntN(d.IntN(t.N+1) + 1) {
			v.Kids = append(v.Kids, d.value(t.Kids[0]))
		}
	case types.Rec:
		for _, kid := range t.Kids {
			v.Kids = append(v.Kids, d.value(kid))
		}
	}
	return v
}

// row is a Rec's value.
func row(kids ...vals.Value) vals.Value { return vals.Value{Kind: types.Rec, Kids: kids} }

// integer is an Int's value.
func integer(n int) vals.Value { return vals.Value{Kind: types.Int, N: n} }

// plainMoved is what the script of package snap makes of a value of version 1, and how many steps that takes: told table by table.
func plainMoved(v vals.Value) (vals.Value, int) {
	slots, opens, spans := vals.Value{Kind: types.List}, vals.Value{Kind: types.List}, vals.Value{Kind: types.List}
	for i, fd := range v.Kids[1].Kids {
		slots.Kids = append(slots.Kids, row(fd.Kids[0], fd.Kids[1], integer(i)))
		opens.Kids = append(opens.Kids, row(fd.Kids[2], fd.Kids[3], fd.Kids[4]))
	}
	for pid := range 256 {
		for first := range 256 {
			for _, area := range v.Kids[2].Kids {
				if area.Kids[0].N == pid && area.Kids[1].N == first {
					spans.Kids = append(spans.Kids, row(area.Kids[0], area.Kids[1], area.Kids[2], integer(3)))
				}
			}
		}
	}
	steps := 5 + len(slots.Kids) + 2*len(spans.Kids)
	return row(v.Kids[0], slots, spans, v.Kids[3], v.Kids[4], v.Kids[5], opens), steps
}

// plainState is the state of version 2 that comes of one of version 1.
func plainState(st sys.State) sys.State {
	st.Version = 2
	for i, d := range st.Desc {
		st.Opens = append(st.Opens, opens.Open{ID: i, Kind: d.Kind, Obj: d.Obj, Off: d.Off})
		st.Slots = append(st.Slots, opens.Slot{PID: d.PID, Slot: d.Slot, Open: i})
	}
	for _, a := range st.Areas {
		st.Spans = append(st.Spans, spans.Span{PID: a.PID, First: a.First, Count: a.Count, Prot: spans.ReadWrite})
	}
	slices.SortFunc(st.Spans, func(a, b spans.Span) int { return cmp.Compare(100*a.PID+a.First, 100*b.PID+b.First) })
	st.Desc, st.Areas = nil, nil
	return st
}

func TestManyValues(t *testing.T) { // 31.1: the moved bytes, and how many steps that takes, of any values of the schema
	first, second := schema(t, 1), schema(t, 2)
	for seed := range uint64(80) {
		v := throw(seed).value(first)
		to, steps := plainMoved(v)
		b := written(t, wire.State{Version: 1, Type: first, Value: v})
		moves(t, b, snap.Script, written(t, wire.State{Version: 2, Type: second, Value: to}), steps)
	}
}

// greatest is a value of a right type that has the most bytes.
func greatest(t types.Type) vals.Value {
	v := vals.Value{Kind: t.Kind}
	switch t.Kind {
	case types.Text:
		v.S = strings.Repeat("x", t.N)
	case types.List:
		v.Kids = slices.Repeat([]vals.Value{greatest(t.Kids[0])}, t.N)
	case types.Rec:
		for _, field := range t.Kids {
			v.Kids = append(v.Kids, greatest(field))
		}
	}
	return v
}

func TestEdges(t *testing.T) { // 31.1: the least value, and the greatest one: none has too many bytes
	first, second := schema(t, 1), schema(t, 2)
	least, _ := vals.Default(first)
	for _, v := range []vals.Value{least, greatest(first)} {
		to, steps := plainMoved(v)
		moves(t, written(t, wire.State{Version: 1, Type: first, Value: v}), snap.Script, written(t, wire.State{Version: 2, Type: second, Value: to}), steps)
	}
}

func TestManyBytes(t *testing.T) { // 31.1, 31.2: of bytes with something changed each call answers what the chapters' words tell, and makes nothing, if they are wrong
	programs := throw(0).programs(t)
	right, built := 0, 0
	for seed := range uint64(50) {
		d := throw(seed)
		b := d.turns(t, programs, d.IntN(300))
		was := boundOf(b.p.Kernel)
		s := b.bytes()
		m, e := Move(s, snap.Script, 10000)
		if e != api.OK {
			t.Fatal(e)
		}
		for range 10 {
			x := d.changed(s)
			if w, e := wire.Read(x); e == api.OK && w.Version == 1 && types.Same(w.Type, schema(t, 1)) {
				to, steps := plainMoved(w.Value)
				moves(t, x, snap.Script, written(t, wire.State{Version: 2, Type: schema(t, 2), Value: to}), steps)
				right++
			} else {
				stays(t, x, snap.Script, api.ErrForm)
			}
			x = d.changed(m)
			if b.builds(x) {
				built++
			}
		}
		if !identicalBound(was, boundOf(b.p.Kernel)) || b.bytes() != s {
			t.Fatal("something has changed")
		}
	}
	if right < 150 || built < 50 {
		t.Errorf("%d, %d", right, built)
	}
}

// changed are bytes with one of them changed, most often behind the type, or with some that are gone.
func (d dice) changed(s string) string {
	b := []byte(s)
	at := d.IntN(len(b))
	switch d.IntN(12) {
	case 0:
		return s[:at]
	case 1:
		return s + s[at:at+1]
	case 2:
		b[at] ^= byte(1 << d.IntN(8))
	default:
		b[300+d.IntN(len(b)-300)] ^= byte(1 << d.IntN(8))
	}
	return string(b)
}

// builds tells whether a system is built of bytes; it wants one of the tables that they tell.
func (b *box) builds(s string) bool {
	b.t.Helper()
	x, e := Build(b.p, s)
	st, f := snap.Read(s)
	if f == api.OK && st.Version != 2 {
		f = api.ErrForm
	}
	var want *sys.System
	if f == api.OK {
		want, f = sys.Load(b.p.Kernel, b.p.Env, b.p.Programs, st)
	}
	if e != f || (x == nil) == (e == api.OK) || !identical(x.State(), want.State()) {
		b.t.Fatalf("Build(%q): %v, %v, not %v", s, x.State(), e, f)
	}
	return e == api.OK
}

func TestManySystems(t *testing.T) { // 31.2 to 31.4: of any system of version 1 comes one that is Right, with the same frames and blocks; the old one is as it was
	longest := 0
	for seed := range uint64(60) {
		d := throw(seed)
		b := d.turns(t, d.programs(t), 0)
		for range 20 {
			for range d.IntN(40) {
				b.s.Step(1 + d.IntN(6))
			}
			st, was := b.s.State(), boundOf(b.p.Kernel)
			now, e := Whole(b.p, b.s, snap.Script)
			if e != api.OK || !identical(now.State(), plainState(st)) {
				t.Fatalf("Whole: %v: %v, of %v", e, now.State(), st)
			}
			if !Right(b.s, now) || !abs.Same(abs.Of(b.s), abs.Of(now)) {
				t.Fatalf("%v is not right: %v", now.State(), st)
			}
			if !identical(b.s.State(), st) || !identicalBound(was, boundOf(b.p.Kernel)) {
				t.Fatalf("%v was %v", b.s.State(), st)
			}
			longest = max(longest, len(b.bytes()))
		}
	}
	if longest < 1000 {
		t.Errorf("longest: %d", longest)
	}
}

// tamed makes a system one whose processes go on with tame programs.
func (d dice) tamed(b *box) {
	b.t.Helper()
	st := b.s.State()
	for i := range st.Procs {
		if !st.Procs[i].Ended {
			st.Procs[i].Program, st.Procs[i].CPU.PC = 4+d.IntN(4), 0
		}
	}
	b.s = b.loaded(st)
}

func TestGoesOn(t *testing.T) { // 31.5: from there on the system answers what version 1 would answer, and is alike, as long as no descriptor is inherited or doubled
	events := map[int]int{}
	for seed := range uint64(150) {
		programs := throw(seed).programs(t)
		steps := throw(seed).IntN(400)
		a, b := throw(seed).turns(t, programs, steps), throw(seed).turns(t, programs, steps)
		throw(seed).tamed(a)
		throw(seed).tamed(b)
		now, e := Whole(b.p, b.s, snap.Script)
		if e != api.OK {
			t.Fatal(e)
		}
		d := throw(seed)
		for i := range 300 {
			pid := 1 + d.IntN(6)
			x, y := a.s.Step(pid), now.Step(pid)
			if x != y {
				t.Fatalf("step %d of %d: %v, not %v", i, seed, y, x)
			}
			events[x.Kind]++
			if i%10 == 0 && !abs.Alike(abs.Of(a.s), abs.Of(now)) {
				t.Fatalf("step %d of %d: %v, not %v", i, seed, now.State(), a.s.State())
			}
		}
		if !abs.Alike(abs.Of(a.s), abs.Of(now)) || now.State().Version != 2 {
			t.Fatalf("%d: %v, not %v", seed, now.State(), a.s.State())
		}
	}
	for kind := sys.Ran; kind <= sys.Exited; kind++ {
		if events[kind] < 50 {
			t.Errorf("%v", events)
		}
	}
}
