package sys

import (
	"fmt"
	"maps"
	"math/rand/v2"
	"slices"
	"strings"
	"testing"

	"imago/api"
	"imago/code"
	"imago/cpu"
	"imago/spans"
)

// plainSlot is a descriptor; several of version 2 may have one place.
type plainSlot struct {
	kind, obj int
	off       *int
}

// plainProc is a process; pages that share a frame have one pointer.
type plainProc struct {
	Proc
	slots map[int]plainSlot
	pages map[int]*[16]byte
}

// plain is a system in the plainest way, without a kernel: it may have so many frames and blocks.
type plain struct {
	version        int
	programs       []string
	frames, blocks int
	procs          map[int]*plainProc
	areas          []spans.Span // in the order in which they came
	files, pipes   map[int]string
}

func newPlain(version, frames, blocks int, programs []string) *plain {
	m := &plain{version: version, programs: programs, frames: frames, blocks: blocks, procs: map[int]*plainProc{}, files: map[int]string{}, pipes: map[int]string{}}
	m.procs[1] = &plainProc{Proc: Proc{PID: 1}, slots: map[int]plainSlot{0: {1, 0, new(int)}, 1: {1, 0, new(int)}}, pages: map[int]*[16]byte{}}
	m.areas = []spans.Span{{PID: 1, First: 0, Count: 4, Prot: 3}}
	return m
}

// rising are the numbers of processes.
func (m *plain) rising() []int { return slices.Sorted(maps.Keys(m.procs)) }

// users is how many pages have a frame.
func (m *plain) users(frame *[16]byte) int {
	n := 0
	for _, p := range m.procs {
		for _, f := range p.pages {
			if f == frame {
				n++
			}
		}
	}
	return n
}

// used is how many frames there are.
func (m *plain) used() int {
	all := map[*[16]byte]bool{}
	for _, p := range m.procs {
		for _, f := range p.pages {
			all[f] = true
		}
	}
	return len(all)
}

// may tells whether a process may read, or write, bytes.
func (m *plain) may(pid, addr, n int, write bool) bool {
	for a := addr; a < addr+n; a++ {
		in := slices.ContainsFunc(m.areas, func(s spans.Span) bool {
			return s.PID == pid && a >= s.First*16 && a < (s.First+s.Count)*16 && (!write || s.Prot == 3)
		})
		if !in {
			return false
		}
	}
	return true
}

func (m *plain) read(p *plainProc, addr, n int) string {
	var b []byte
	for a := addr; a < addr+n; a++ {
		c := byte(0)
		if f := p.pages[a/16]; f != nil {
			c = f[a%16]
		}
		b = append(b, c)
	}
	return string(b)
}

// write writes bytes, if the frames that they need may be had.
func (m *plain) write(p *plainProc, addr int, s string) bool {
	lack := map[int]bool{}
	for i := range len(s) {
		page := (addr + i) / 16
		if f := p.pages[page]; f == nil || m.users(f) > 1 {
			lack[page] = true
		}
	}
	if m.used()+len(lack) > m.frames {
		return false
	}
	for page := range lack {
		own := [16]byte{}
		if f := p.pages[page]; f != nil {
			own = *f
		}
		p.pages[page] = &own
	}
	for i := range len(s) {
		p.pages[(addr+i)/16][(addr+i)%16] = s[i]
	}
	return true
}

// refs is how many descriptors there are of a kind and object.
func (m *plain) refs(kind, obj int) int {
	n := 0
	for _, p := range m.procs {
		for _, s := range p.slots {
			if s.kind == kind && s.obj == obj {
				n++
			}
		}
	}
	return n
}

// sweep closes pipes that nobody names.
func (m *plain) sweep() {
	for id := range 3 {
		if m.refs(3, id)+m.refs(4, id) == 0 {
			delete(m.pipes, id)
		}
	}
}

// unmapAll takes all areas and pages of a process.
func (m *plain) unmapAll(p *plainProc) {
	m.areas = slices.DeleteFunc(m.areas, func(s spans.Span) bool { return s.PID == p.PID })
	clear(p.pages)
}

func (m *plain) end(p *plainProc, status int) Event {
	m.unmapAll(p)
	clear(p.slots)
	m.sweep()
	for pid, q := range m.procs {
		if q.Parent == p.PID {
			q.Parent = 0
			if q.Ended {
				delete(m.procs, pid)
			}
		}
	}
	p.Ended, p.Status = true, status
	if p.Parent == 0 {
		delete(m.procs, p.PID)
	}
	return Event{Kind: Exited, PID: p.PID, Result: status}
}

func (m *plain) step(pid int) Event {
	p := m.procs[pid]
	if p == nil || p.Ended {
		return Event{PID: pid}
	}
	before := p.CPU
	c, act := cpu.Step(before, m.programs[p.Program])
	p.CPU = c
	switch {
	case act.Kind == cpu.Bad:
		return m.end(p, 132)
	case act.Kind == cpu.Ended:
		return m.end(p, 0)
	case act.Kind == cpu.Called && act.N == 1:
		return m.end(p, int(c.R[1]%256))
	case act.Kind == cpu.Called:
		result, output := m.call(p, act.N, int(c.R[1]), int(c.R[2]), int(c.R[3]))
		if result == wait {
			p.CPU = before
			return Event{Kind: Blocked, PID: pid, Call: act.N}
		}
		p.CPU.R[0] = uint16(result)
		return Event{Kind: Done, PID: pid, Call: act.N, Result: result & 65535, Output: output}
	case act.Kind == cpu.Reads || act.Kind == cpu.Writes:
		if !m.may(pid, act.Addr, act.Size, act.Kind == cpu.Writes) {
			return m.end(p, 139)
		}
		if act.Kind == cpu.Reads {
			p.CPU.R[act.Reg] = uint16(number(m.read(p, act.Addr, act.Size)))
		} else if s := string([]byte{byte(act.Value >> 8), byte(act.Value)}); !m.write(p, act.Addr, s[2-act.Size:]) {
			return m.end(p, 137)
		}
	}
	return Event{Kind: Ran, PID: pid}
}

func number(s string) int {
	n := 0
	for _, c := range []byte(s) {
		n = n*256 + int(c)
	}
	return n
}

// What calls answer that have no number to tell.
const (
	wait    = -100
	noArg   = -1
	noNone  = -2
	noFull  = -3
	noMem   = -4
	noChild = -5
	noPipe  = -6
	noCall  = -7
)

func (m *plain) call(p *plainProc, n, a, b, c int) (int, string) {
	if n > 14 && m.version == 1 {
		return noCall, ""
	}
	switch n {
	case 2:
		return m.fork(p), ""
	case 3:
		return m.wait(p), ""
	case 4:
		if a >= len(m.programs) {
			return noNone, ""
		}
		m.unmapAll(p)
		m.areas = append(m.areas, spans.Span{PID: p.PID, First: 0, Count: 4, Prot: 3})
		p.Program, p.CPU = a, api.CPU{}
		return 0, ""
	case 5, 6, 9, 10, 11, 15, 16:
		return m.slotCall(p, n, a, b), ""
	case 7:
		return m.readCall(p, a, b, c), ""
	case 8:
		return m.writeCall(p, a, b, c)
	case 12, 13, 17:
		return m.areaCall(p, n, a, b), ""
	case 14:
		return p.PID, ""
	}
	return noCall, ""
}

func (m *plain) fork(p *plainProc) int {
	for pid := 1; pid <= 6; pid++ {
		if m.procs[pid] != nil {
			continue
		}
		child := &plainProc{Proc: p.Proc, slots: map[int]plainSlot{}, pages: maps.Clone(p.pages)}
		child.PID, child.Parent, child.CPU.R[0] = pid, p.PID, 0
		for slot := range p.slots {
			child.slots[slot] = m.same(p.slots[slot])
		}
		for _, s := range slices.Clone(m.areas) {
			if s.PID == p.PID {
				m.areas = append(m.areas, spans.Span{PID: pid, First: s.First, Count: s.Count, Prot: s.Prot})
			}
		}
		m.procs[pid] = child
		return pid
	}
	return noFull
}

// same is one more descriptor like another one: with its place, or with one of its own.
func (m *plain) same(s plainSlot) plainSlot {
	if m.version == 1 {
		off := *s.off
		s.off = &off
	}
	return s
}

func (m *plain) wait(p *plainProc) int {
	result := noChild
	for _, pid := range m.rising() {
		q := m.procs[pid]
		if q.Parent != p.PID {
			continue
		}
		if q.Ended {
			delete(m.procs, pid)
			return pid*256 + q.Status
		}
		result = wait
	}
	return result
}

// free are the free slots of a process, rising.
func (p *plainProc) free() []int {
	var l []int
	for slot := range 6 {
		if _, there := p.slots[slot]; !there {
			l = append(l, slot)
		}
	}
	return l
}

func (m *plain) slotCall(p *plainProc, n, a, b int) int {
	s, there := p.slots[a]
	free := p.free()
	switch {
	case n == 5 && a > 3:
		return noNone
	case n == 5 && b > 1:
		return noArg
	case n != 5 && n != 9 && !there:
		return noArg
	case (n == 5 || n == 10) && len(free) == 0, n == 9 && len(free) < 2:
		return noFull
	case n == 5:
		if _, made := m.files[a]; !made || b == 1 {
			m.files[a] = ""
		}
		p.slots[free[0]] = plainSlot{2, a, new(int)}
		return free[0]
	case n == 6:
		delete(p.slots, a)
		m.sweep()
		return 0
	case n == 10:
		p.slots[free[0]] = m.same(s)
		return free[0]
	case n == 15 && b > 5:
		return noArg
	case n == 15:
		p.slots[b] = s
		m.sweep()
		return b
	case n == 9:
		return m.pipe(p, free)
	}
	to := b // of seek and skip
	if n == 16 {
		to = *s.off + int(int16(b))
	}
	if s.kind != 2 || to < 0 || to > 32 {
		return noArg
	}
	*s.off = to
	return to
}

func (m *plain) pipe(p *plainProc, free []int) int {
	for id := range 3 {
		if _, there := m.pipes[id]; there {
			continue
		}
		m.pipes[id] = ""
		p.slots[free[0]], p.slots[free[1]] = plainSlot{3, id, new(int)}, plainSlot{4, id, new(int)}
		return free[0] + 256*free[1]
	}
	return noFull
}

func (m *plain) readCall(p *plainProc, a, b, c int) int {
	s, there := p.slots[a]
	if !there || c > 16 || s.kind == 4 || !m.may(p.PID, b, c, true) {
		return noArg
	}
	data := ""
	switch s.kind {
	case 2:
		data = m.files[s.obj][min(*s.off, len(m.files[s.obj])):]
	case 3:
		data = m.pipes[s.obj]
		if data == "" && m.refs(4, s.obj) > 0 {
			return wait
		}
	}
	data = data[:min(c, len(data))]
	if !m.write(p, b, data) {
		return noMem
	}
	switch s.kind {
	case 2:
		*s.off += len(data)
	case 3:
		m.pipes[s.obj] = m.pipes[s.obj][len(data):]
	}
	return len(data)
}

func (m *plain) writeCall(p *plainProc, a, b, c int) (int, string) {
	s, there := p.slots[a]
	if !there || c > 16 || s.kind == 3 || !m.may(p.PID, b, c, false) {
		return noArg, ""
	}
	data := m.read(p, b, c)
	switch s.kind {
	case 1:
		return c, data
	case 2:
		if !m.lay(s.obj, *s.off, data) {
			return noFull, ""
		}
		*s.off += c
	case 4:
		if m.refs(3, s.obj) == 0 {
			return noPipe, ""
		}
		if len(m.pipes[s.obj])+c > 16 {
			return wait, ""
		}
		m.pipes[s.obj] += data
	}
	return c, ""
}

// lay writes bytes of a file, if they fit, and blocks may be had.
func (m *plain) lay(id, off int, data string) bool {
	if data == "" {
		return true
	}
	old := m.files[id]
	now := []byte(old)
	for len(now) < off+len(data) {
		now = append(now, 0)
	}
	copy(now[off:], data)
	blocks := 0
	for _, f := range m.files {
		blocks += (len(f) + 7) / 8
	}
	if len(now) > 32 || blocks-(len(old)+7)/8+(len(now)+7)/8 > m.blocks {
		return false
	}
	m.files[id] = string(now)
	return true
}

func (m *plain) areaCall(p *plainProc, n, a, b int) int {
	if n == 12 {
		return m.place(p, a)
	}
	for i, s := range m.areas {
		switch {
		case s.PID != p.PID || s.First*16 != a:
		case n == 17 && (b == 1 || b == 3):
			m.areas[i].Prot = b
			return 0
		case n == 13:
			m.areas = slices.Delete(m.areas, i, i+1)
			for page := s.First; page < s.First+s.Count; page++ {
				delete(p.pages, page)
			}
			return 0
		}
	}
	return noArg
}

func (m *plain) place(p *plainProc, count int) int {
	if count < 1 || count > 16 {
		return noArg
	}
	has := 0
	for _, s := range m.areas {
		if s.PID == p.PID {
			has++
		}
	}
	run := 0
	for page := range 16 {
		run++
		if m.may(p.PID, page*16, 1, false) {
			run = 0
		}
		if run == count && has < 4 {
			m.areas = append(m.areas, spans.Span{PID: p.PID, First: page - count + 1, Count: count, Prot: 3})
			return (page - count + 1) * 16
		}
	}
	return noFull
}

// differs is what a system's tables have other than the model; empty, if nothing.
func (m *plain) differs(s *System) string {
	st := s.State()
	var procs []Proc
	for _, pid := range m.rising() {
		procs = append(procs, m.procs[pid].Proc)
	}
	if !slices.Equal(procs, st.Procs) {
		return fmt.Sprint("processes ", st.Procs, procs)
	}
	for _, p := range procs {
		want := ""
		if !p.Ended {
			want = m.read(m.procs[p.PID], 0, 256)
		}
		if got := s.Memory(p.PID); got != want {
			return fmt.Sprintf("memory of %d: %q, %q", p.PID, got, want)
		}
	}
	for id := range 4 {
		want, there := m.files[id]
		if got, e := s.File(id); got != want || there != (e == api.OK) {
			return fmt.Sprintf("file %d: %q, %q", id, got, want)
		}
	}
	pipes := map[int]string{}
	for _, i := range st.Pipes {
		pipes[i.ID] = i.Data
	}
	if !maps.Equal(pipes, m.pipes) {
		return fmt.Sprint("pipes ", pipes, m.pipes)
	}
	return m.differsBelow(st)
}

// differsBelow is that of pages, descriptors and areas.
func (m *plain) differsBelow(st State) string {
	areas := slices.Clone(st.Spans)
	for _, a := range st.Areas {
		areas = append(areas, spans.Span{PID: a.PID, First: a.First, Count: a.Count, Prot: 3})
	}
	want := slices.Clone(m.areas)
	if m.version == 2 {
		slices.SortFunc(want, func(a, b spans.Span) int { return a.PID*100 + a.First - b.PID*100 - b.First })
	}
	if !slices.Equal(areas, want) {
		return fmt.Sprint("areas ", areas, want)
	}
	frames := map[*[16]byte]int{}
	n := 0
	for _, e := range st.Pages {
		f := m.procs[e.PID].pages[e.Page]
		if was, known := frames[f]; f == nil || known && was != e.Frame {
			return fmt.Sprint("pages ", st.Pages)
		}
		frames[f] = e.Frame
	}
	for _, p := range m.procs {
		n += len(p.pages)
	}
	numbers := slices.Sorted(maps.Values(frames))
	if len(st.Pages) != n || len(slices.Compact(numbers)) != m.used() {
		return fmt.Sprint("pages ", st.Pages)
	}
	return m.differsSlots(st)
}

// differsSlots is that of descriptors, and of who shares a place.
func (m *plain) differsSlots(st State) string {
	var want []hold
	var shared []int
	places := map[*int]int{}
	for _, pid := range m.rising() {
		for _, slot := range slices.Sorted(maps.Keys(m.procs[pid].slots)) {
			s := m.procs[pid].slots[slot]
			if _, known := places[s.off]; !known {
				places[s.off] = len(want)
			}
			shared = append(shared, places[s.off])
			want = append(want, hold{pid, slot, s.kind, s.obj, *s.off})
		}
	}
	got, sharing := holds(st)
	if !slices.Equal(got, want) || !slices.Equal(sharing, shared) {
		return fmt.Sprint("slots ", got, want, sharing, shared)
	}
	return ""
}

// args are arguments of a call that are mostly such as may be right.
func args(r *rand.Rand, n int) [3]int {
	if r.IntN(40) == 0 {
		return [3]int{r.IntN(65536), r.IntN(65536), r.IntN(65536)}
	}
	slot, addr := r.IntN(7), r.IntN(80)
	switch n {
	case 4:
		return [3]int{r.IntN(10), 0, 0}
	case 5:
		return [3]int{r.IntN(5), r.IntN(9) / 4, 0}
	case 7, 8:
		return [3]int{slot, addr, r.IntN(18)}
	case 11:
		return [3]int{slot, r.IntN(36), 0}
	case 12:
		return [3]int{r.IntN(r.IntN(16)+2) + 1, 0, 0}
	case 13, 17:
		return [3]int{r.IntN(9) * 16, 1 + 2*r.IntN(2) + r.IntN(8)/7, 0}
	case 15:
		return [3]int{slot, r.IntN(7), 0}
	case 16:
		return [3]int{slot, (r.IntN(40) - 20) & 65535, 0}
	}
	return [3]int{slot, addr, r.IntN(18)}
}

// some is the number of a call; those that end processes are rarer.
func some(r *rand.Rand) int {
	n := r.IntN(18)
	switch {
	case n == 1 && r.IntN(4) > 0, n == 4 && r.IntN(2) > 0:
		return 7 + r.IntN(2)
	case r.IntN(300) == 0:
		return r.IntN(256)
	}
	return n
}

// someProc is the number of a process, most often of one that is there.
func (m *plain) someProc(r *rand.Rand) int {
	l := m.rising()
	if r.IntN(10) == 0 || len(l) == 0 {
		return r.IntN(20) - 6
	}
	return l[r.IntN(len(l))]
}

// someSlot is a slot of a process that a call may be meant for.
func (p *plainProc) someSlot(r *rand.Rand, n int) int {
	l := slices.Sorted(maps.Keys(p.slots))
	r.Shuffle(len(l), func(i, j int) { l[i], l[j] = l[j], l[i] })
	meant := map[int][]int{7: {2, 3}, 8: {2, 4}, 11: {2}, 16: {2}}[n]
	for _, slot := range l {
		if len(meant) == 0 || slices.Contains(meant, p.slots[slot].kind) {
			return slot
		}
	}
	return r.IntN(7)
}

// program is a program at random, that begins again and again.
func program(r *rand.Rand) string {
	var l []code.Inst
	for size(l) < 225 {
		switch what := r.IntN(10); {
		case what < 6:
			n := some(r)
			for i, v := range args(r, n) {
				l = append(l, code.Inst{Op: code.Set, A: i + 1, N: v})
			}
			l = append(l, code.Inst{Op: code.Call, N: n})
		case what < 8:
			l = append(l, code.Inst{Op: code.Set, A: 4, N: r.IntN(66)}, code.Inst{Op: code.Load + r.IntN(4), A: 4, B: 4})
		case what < 9:
			l = append(l, code.Inst{Op: code.Add, A: r.IntN(8), B: r.IntN(8)}, code.Inst{Op: code.Zero, A: r.IntN(8), N: 4}, code.Inst{Op: code.Set, A: 7, N: 9})
		case r.IntN(3) > 0:
			l = append(l, code.Inst{Op: code.Store + 2*r.IntN(2), A: 1 + r.IntN(3), B: 2})
		case r.IntN(2) == 0:
			l = append(l, code.Inst{Op: code.Zero, A: r.IntN(8), N: 1}, code.Inst{Op: code.Stop})
		default:
			l = append(l, code.Inst{Op: code.Other, A: r.IntN(8), N: 65535}) // into its own bytes: most often no instruction
		}
	}
	l = append(l, code.Inst{Op: code.Jump, N: 65536 - size(l) - 3})
	s, _ := code.Join(l)
	return s
}

// size is how many bytes instructions have.
func size(l []code.Inst) int {
	s, _ := code.Join(l)
	return len(s)
}

// told counts what was told: of a call's number its errors, each by its number, 0 of others, and -1 of a wait; of number 1 the statuses.
type told map[[2]int]int

func (o told) note(e Event) {
	what := 0
	switch {
	case e.Kind == Exited:
		what, e.Call = e.Result, 1
	case e.Kind == Blocked:
		what = -1
	case e.Kind == Done && e.Result > 65500:
		what = 65536 - e.Result
	}
	if e.Kind == Done || e.Kind == Blocked || e.Kind == Exited {
		o[[2]int{e.Call, what}]++
	}
}

// missing are answers of which fewer than so many were told.
func (o told) missing(version, least int) string {
	wanted := [][]int{
		{1, 132, 137, 139, 0, 5}, {2, 0, 3}, {3, 0, 5, -1}, {4, 0, 2}, {5, 0, 1, 2, 3}, {6, 0, 1}, {7, 0, 1, 4, -1}, {8, 0, 1, 3, 6, -1},
		{9, 0, 3}, {10, 0, 1, 3}, {11, 0, 1}, {12, 0, 1, 3}, {13, 0, 1}, {14, 0}, {15, 0, 1}, {16, 0, 1}, {17, 0, 1},
	}
	if version == 1 {
		wanted = append(wanted[:14], []int{15, 7}, []int{16, 7}, []int{17, 7}, []int{0, 7})
	}
	var l []string
	for _, w := range wanted {
		for _, what := range w[1:] {
			if o[[2]int{w[0], what}] < least {
				l = append(l, fmt.Sprint(w[0], ":", what))
			}
		}
	}
	return strings.Join(l, " ")
}

// pokes makes the next step of a process a call at random, in both.
func pokes(b *box, m *plain, pid int, r *rand.Rand) {
	p := m.procs[pid]
	if p == nil || p.Ended {
		return
	}
	n := some(r)
	if n > 127 {
		return
	}
	p.Program, p.CPU.PC = 0, uint16(n*2)
	for i, v := range args(r, n) {
		p.CPU.R[i+1] = uint16(v)
	}
	if slices.Contains([]int{6, 7, 8, 10, 11, 15, 16}, n) && r.IntN(4) > 0 {
		p.CPU.R[1] = uint16(p.someSlot(r, n))
	}
	b.sets(pid, func(q *Proc) { q.Program, q.CPU = p.Program, p.CPU })
}

func TestManySteps(t *testing.T) { // 28.1 to 28.6, R4, R6: held against the plain model, over many steps of programs and calls at random; half of the runs are loaded again and again
	versions(t, func(t *testing.T, version int) {
		all := told{}
		for seed := range uint64(150) {
			r := rand.New(rand.NewPCG(seed, 28))
			programs := halves()[:1]
			for range 5 {
				programs = append(programs, program(r))
			}
			frames, blocks := r.IntN(9), r.IntN(9)
			b := boxOf(t, version, frames, blocks, programs...)
			m := newPlain(version, frames, blocks, programs)
			m.procs[1].Program = 1
			b.sets(1, func(p *Proc) { p.Program = 1 })
			for i := 0; i < 600 && len(m.procs) > 0; i++ {
				pid := m.someProc(r)
				if seed%2 == 0 && r.IntN(3) > 0 {
					pokes(b, m, pid, r)
				}
				want := m.step(pid)
				got := b.s.Step(pid)
				if d := m.differs(b.s); got != want || d != "" {
					t.Fatalf("step %d of %d: %v, not %v; %s", i, seed, got, want, d)
				}
				all.note(got)
				if i%16 == 0 {
					b.sound()
				}
			}
			b.sound()
		}
		if l := all.missing(version, 10); l != "" {
			t.Errorf("too little was told: %s", l)
		}
	})
}
