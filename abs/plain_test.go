package abs

import (
	"math/rand/v2"
	"slices"
	"testing"

	"imago/api"
	"imago/areas"
	"imago/files"
	"imago/kern"
	"imago/opens"
	"imago/pages"
	"imago/spans"
	"imago/sys"
)

// dice throws what tests are made of; the same at each run.
type dice struct{ *rand.Rand }

func throw(seed uint64) dice { return dice{rand.New(rand.NewPCG(seed, 29))} }

// args are arguments of a call that are mostly such as may be right. Only the first four pages are written, so that frames are enough for all.
func (d dice) args(n int) []int {
	slot, addr := d.IntN(7), d.IntN(64)
	switch n {
	case 4:
		return []int{d.IntN(5)}
	case 5:
		return []int{d.IntN(5), d.IntN(7) / 4}
	case 7, 8:
		return []int{slot, addr, d.IntN(17)}
	case 11:
		return []int{slot, d.IntN(34)}
	case 12:
		return []int{d.IntN(d.IntN(9)+1) + 1}
	case 13, 17:
		return []int{d.IntN(6) * 16, 1 + 2*d.IntN(2)}
	case 15:
		return []int{slot, d.IntN(7)}
	case 16:
		return []int{slot, d.IntN(40) - 20}
	}
	return []int{slot, addr, d.IntN(18)}
}

// move is a step of some process, of one of these calls, or one that reads or writes memory.
func (d dice) move(st sys.State, calls []int) move {
	pid := d.IntN(8)
	if len(st.Procs) > 0 && d.IntN(8) > 0 {
		pid = st.Procs[d.IntN(len(st.Procs))].PID
	}
	if d.IntN(4) > 0 {
		n := calls[d.IntN(len(calls))]
		return call(pid, n, d.args(n)...)
	}
	m := move{pid: pid, program: 2, cpu: api.CPU{PC: uint16(2 * d.IntN(4))}}
	if d.IntN(30) == 0 {
		m.cpu.PC = uint16(8 + d.IntN(2)) // it ends
	}
	for i := range m.cpu.R {
		m.cpu.R[i] = uint16(d.IntN(65536))
	}
	m.cpu.R[1] = uint16(d.IntN(63))
	m.cpu.R[2] = uint16(d.IntN(63))
	return m
}

// all are all calls, some of them more often, and numbers that are none.
var all = []int{1, 2, 2, 2, 3, 4, 5, 5, 6, 7, 7, 8, 8, 9, 10, 11, 12, 13, 14, 15, 16, 17, 18, 200}

// plainView is the view of a system, by the chapter's words, out of its tables, frames and blocks.
func plainView(b *box) View {
	st := b.s.State()
	read := func(what, kind, number int) string {
		r := b.k.Do(1, kern.Call{What: what, H: b.k.Root(kind, number)})
		if r.Err != api.OK {
			b.t.Fatal(r)
		}
		return r.S
	}
	var v View
	var places []int
	for pid := 1; pid <= 6; pid++ {
		for _, p := range st.Procs {
			if p.PID != pid {
				continue
			}
			q := Proc{PID: p.PID, Parent: p.Parent, Program: p.Program, Ended: p.Ended, Status: p.Status, CPU: p.CPU}
			if !p.Ended {
				memory := make([]byte, 256)
				for _, e := range st.Pages {
					if e.PID == pid {
						copy(memory[e.Page*16:], read(kern.Page, api.Frame, e.Frame))
					}
				}
				q.Memory = string(memory)
				q.Areas = plainAreas(st, pid)
				var more []int
				q.Slots, more = plainSlots(st, pid)
				places = append(places, more...)
			}
			v.Procs = append(v.Procs, q)
		}
	}
	for i, place := range places {
		for first := 0; ; first++ {
			if first == i || place >= 0 && places[first] == place {
				v.Shared = append(v.Shared, first)
				break
			}
		}
	}
	for id := range 4 {
		for _, i := range st.Files {
			if i.ID == id {
				data := ""
				for _, block := range i.Blocks {
					data += read(kern.Read, api.Block, block)
				}
				v.Files = append(v.Files, Thing{id, data[:i.Size]})
			}
		}
		for _, i := range st.Pipes {
			if i.ID == id {
				v.Pipes = append(v.Pipes, Thing{id, i.Data})
			}
		}
	}
	return v
}

// plainAreas are a process's areas, page by page.
func plainAreas(st sys.State, pid int) []Area {
	var l []Area
	for page := range 16 {
		for _, a := range st.Areas {
			if a.PID == pid && a.First == page {
				l = append(l, Area{page, a.Count, true})
			}
		}
		for _, a := range st.Spans {
			if a.PID == pid && a.First == page {
				l = append(l, Area{page, a.Count, a.Prot == spans.ReadWrite})
			}
		}
	}
	return l
}

// plainSlots are a process's slots, and for each of them the ID of its object; -1 in version 1.
func plainSlots(st sys.State, pid int) ([]Slot, []int) {
	var l []Slot
	var ids []int
	for slot := range 6 {
		for _, d := range st.Desc {
			if d.PID == pid && d.Slot == slot {
				l, ids = append(l, Slot{slot, d.Kind, d.Obj, d.Off}), append(ids, -1)
			}
		}
		for _, s := range st.Slots {
			for _, o := range st.Opens {
				if s.PID == pid && s.Slot == slot && o.ID == s.Open {
					l, ids = append(l, Slot{slot, o.Kind, o.Obj, o.Off}), append(ids, o.ID)
				}
			}
		}
	}
	return l, ids
}

func TestManyViews(t *testing.T) { // 29.1: held against the plain view, over many systems
	versions(t, func(t *testing.T, version int) {
		for seed := range uint64(40) {
			d, b := throw(seed), start(t, version)
			for range 150 {
				b.do(d.move(b.s.State(), all))
				is(t, b.s, plainView(b))
			}
		}
	})
}

// twin is a system with the same view, of a machine of its own: in other frames and blocks, with pages of their own, also of zeros, areas in another order, objects of other IDs.
func (d dice) twin(b *box) *box {
	b.t.Helper()
	st := b.s.State()
	c := &box{t: b.t, k: machine(b.t, st.Version)}
	for _, kind := range []int{api.Frame, api.Block} { // so that numbers are others
		c.k.Open(2, 1, [3]int{7, 7, 0})
		for range 1 + d.IntN(6) {
			c.k.Do(2, kern.Call{What: kern.Bind, A: kind})
		}
	}
	st.Pages = d.otherPages(b, c, st)
	for i, f := range st.Files {
		st.Files[i] = files.Info{ID: f.ID, Size: f.Size}
		for _, block := range f.Blocks {
			s := b.k.Do(1, kern.Call{What: kern.Read, H: b.k.Root(api.Block, block)}).S
			r := c.k.Do(1, kern.Call{What: kern.Bind, A: api.Block})
			c.k.Do(1, kern.Call{What: kern.Write, H: r.H, S: s})
			st.Files[i].Blocks = append(st.Files[i].Blocks, r.N)
		}
	}
	d.Shuffle(len(st.Areas), func(i, j int) { st.Areas[i], st.Areas[j] = st.Areas[j], st.Areas[i] })
	ids := d.Perm(36)
	for i := range st.Opens {
		st.Opens[i].ID = ids[st.Opens[i].ID]
	}
	for i := range st.Slots {
		st.Slots[i].Open = ids[st.Slots[i].Open]
	}
	c.load(st)
	return c
}

// otherPages are pages with the same bytes, each with a frame of its own, and some that were not there.
func (d dice) otherPages(b, c *box, st sys.State) []pages.Entry {
	var l []pages.Entry
	for _, p := range st.Procs {
		for page := range 4 {
			memory := b.s.Memory(p.PID)
			isArea := func(a areas.Area) bool { return a.PID == p.PID && a.First <= page && page < a.First+a.Count }
			isSpan := func(a spans.Span) bool { return isArea(areas.Area{PID: a.PID, First: a.First, Count: a.Count}) }
			was := func(e pages.Entry) bool { return e.PID == p.PID && e.Page == page }
			may := slices.ContainsFunc(st.Areas, isArea) || slices.ContainsFunc(st.Spans, isSpan)
			if !may || !slices.ContainsFunc(st.Pages, was) && d.IntN(2) > 0 {
				continue
			}
			r := c.k.Do(1, kern.Call{What: kern.Bind, A: api.Frame})
			c.k.Do(1, kern.Call{What: kern.Load, H: r.H, S: memory[page*16 : page*16+16]})
			l = append(l, pages.Entry{PID: p.PID, Page: page, Frame: r.N})
		}
	}
	return l
}

func TestTwins(t *testing.T) { // 29.3: systems of the same view tell the same events of the same steps, and have the same view behind each
	versions(t, func(t *testing.T, version int) {
		for seed := range uint64(60) {
			d, b := throw(seed), start(t, version)
			for range d.IntN(150) {
				b.do(d.move(b.s.State(), all))
			}
			c := d.twin(b)
			for i := range 100 {
				ask(t, Of(b.s), Of(c.s), true, true, "")
				m := d.move(b.s.State(), all)
				if e, f := b.do(m), c.do(m); e != f {
					t.Fatalf("step %d of %d: %v, %v", i, seed, e, f)
				}
			}
			ask(t, Of(b.s), Of(c.s), true, true, "")
		}
	})
}

func TestTwinsThatShareOtherwise(t *testing.T) { // 29.1: a system whose slots name other objects, of the same Kind, Obj and Off, is alike, but not the same
	b := start(t, 2)
	b.does(1, 5, 2, 1, 0)
	b.does(1, 10, 3, 2)
	st := b.s.State()
	st.Opens = append(st.Opens, opens.Open{ID: 9, Kind: api.File, Obj: 1})
	st.Slots[3].Open = 9
	c := start(t, 2)
	c.load(st)
	ask(t, Of(b.s), Of(c.s), true, false, "")
	m := call(1, 11, 2, 5)
	b.do(m)
	c.do(m)
	ask(t, Of(b.s), Of(c.s), false, false, "procs")
}

func TestVersions(t *testing.T) { // 29.1: systems of both versions that do the same are alike, as long as no place is moved that only one of them shares; they are the same, if none is shared
	for _, c := range []struct {
		what  string
		calls []int
	}{
		{"none shared", []int{3, 4, 5, 5, 6, 7, 8, 9, 11, 12, 13, 14}},
		{"none moved", []int{1, 2, 2, 2, 3, 4, 5, 6, 9, 10, 12, 13, 14}},
	} {
		steps := 0 // behind which the views were alike, but not the same
		for seed := range uint64(30) {
			d, a, b := throw(seed), start(t, 1), start(t, 2)
			for i := range 150 {
				m := d.move(a.s.State(), c.calls)
				if e, f := a.do(m), b.do(m); e != f {
					t.Fatalf("%s: step %d of %d: %v, %v", c.what, i, seed, e, f)
				}
				v, w := Of(a.s), Of(b.s)
				unshared := slices.Equal(v.Shared, w.Shared)
				ask(t, v, w, true, unshared, "")
				if !unshared {
					steps++
				}
			}
		}
		if (steps > 1000) != (c.what == "none moved") {
			t.Errorf("%s: %d steps", c.what, steps)
		}
	}
}
