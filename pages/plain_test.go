package pages

import (
	"math/rand/v2"
	"slices"
	"testing"

	"imago/api"
	"imago/kern"
)

// plain is memory in the plainest way: each process has all its bytes for itself; beside that, which pages are there, and their frames. taken are the frames of all in the machine, by whom.
type plain struct {
	bytes  [7][256]byte
	frames [7][16]int // a frame's number and 1; 0 of a page that is not there
	quota  int
	taken  map[int]int
	env    int
}

// users is how many pages have a frame.
func (m *plain) users(frame int) int {
	n := 0
	for _, frames := range m.frames {
		for _, f := range frames {
			if f == frame {
				n++
			}
		}
	}
	return n
}

// has is how many frames an environment has.
func (m *plain) has() int {
	n := 0
	for _, env := range m.taken {
		if env == m.env {
			n++
		}
	}
	return n
}

// take takes the free frame of the lowest number.
func (m *plain) take() int {
	frame := 0
	for m.taken[frame] != 0 {
		frame++
	}
	m.taken[frame] = m.env
	return frame
}

// fits tells whether these are numbers of a process and of its addresses.
func fits(pid, addr, n int) bool {
	return pid >= 1 && pid <= 6 && addr >= 0 && addr <= 255 && n >= 0 && addr+n <= 256
}

func (m *plain) read(pid, addr, n int) (string, api.Errno) {
	if !fits(pid, addr, n) {
		return "", api.ErrArg
	}
	return string(m.bytes[pid][addr : addr+n]), api.OK
}

func (m *plain) write(pid, addr int, s string) api.Errno {
	if !fits(pid, addr, len(s)) {
		return api.ErrArg
	}
	var lack []int
	for i := range len(s) {
		page := (addr + i) / 16
		if f := m.frames[pid][page]; (f == 0 || m.users(f) > 1) && !slices.Contains(lack, page) {
			lack = append(lack, page)
		}
	}
	if m.has()+len(lack) > m.quota {
		return api.ErrFull
	}
	for _, page := range lack {
		m.frames[pid][page] = m.take() + 1
	}
	copy(m.bytes[pid][addr:], s)
	return api.OK
}

func (m *plain) fork(parent, child int) api.Errno {
	if !fits(parent, 0, 0) || !fits(child, 0, 0) || parent == child {
		return api.ErrArg
	}
	if m.frames[child] != [16]int{} {
		return api.ErrState
	}
	m.frames[child], m.bytes[child] = m.frames[parent], m.bytes[parent]
	return api.OK
}

func (m *plain) unmap(pid, page int) api.Errno {
	if !fits(pid, page, 0) || page > 15 {
		return api.ErrArg
	}
	if f := m.frames[pid][page]; m.users(f) == 1 {
		delete(m.taken, f-1)
	}
	m.frames[pid][page] = 0
	clear(m.bytes[pid][page*16 : page*16+16])
	return api.OK
}

func (m *plain) drop(pid int) api.Errno {
	e := api.OK
	for page := range 16 {
		e = m.unmap(pid, page)
	}
	return e
}

func (m *plain) list() []Entry {
	var l []Entry
	for pid, frames := range m.frames {
		for page, f := range frames {
			if f > 0 {
				l = append(l, Entry{pid, page, f - 1})
			}
		}
	}
	return l
}

// some is so many bytes at most.
func some(r *rand.Rand, most int) string {
	b := make([]byte, r.IntN(most+1))
	for i := range b {
		b[i] = byte(r.IntN(256))
	}
	return string(b)
}

// step makes one call of both, and tells the error, and whether they answer the same.
func step(p *Pages, m *plain, r *rand.Rand) (api.Errno, bool) {
	pid, addr := r.IntN(6)+1, r.IntN(256)
	if r.IntN(20) == 0 {
		pid = r.IntN(12) - 3
	}
	if r.IntN(2) == 0 { // so that pages are met again
		addr %= 48
	}
	switch what := r.IntN(60); {
	case what < 5:
		child := r.IntN(8)
		e := p.Fork(pid, child)
		return e, e == m.fork(pid, child)
	case what < 7:
		e := p.Drop(pid)
		return e, e == m.drop(pid)
	case what < 15:
		page := r.IntN(18) - 1
		e := p.Unmap(pid, page)
		return e, e == m.unmap(pid, page)
	case what < 30:
		n := r.IntN(60) - 2
		s, e := p.Read(pid, addr-2, n)
		w, f := m.read(pid, addr-2, n)
		return e, s == w && e == f
	}
	s := some(r, 20)
	e := p.Write(pid, addr-2, s)
	return e, e == m.write(pid, addr-2, s)
}

// alike tells whether both have the same memory, in the same frames, and the kernel no others.
func alike(k *kern.Kernel, p *Pages, m *plain) bool {
	for pid := 1; pid <= 6; pid++ {
		if s, e := p.Read(pid, 0, 256); s != string(m.bytes[pid][:]) || e != api.OK {
			return false
		}
	}
	return same(k, p, m)
}

// same tells whether both have the same pages; their bytes are not looked at, nor is the buffer changed.
func same(k *kern.Kernel, p *Pages, m *plain) bool {
	var frames []int
	for frame, env := range m.taken {
		if env == m.env {
			frames = append(frames, frame)
		}
	}
	slices.Sort(frames)
	return slices.Equal(p.List(), m.list()) && p.Frames() == len(frames) && slices.Equal(k.List(m.env, api.Frame), frames)
}

// other does something with frames that are no pages'.
func other(k *kern.Kernel, m *plain, r *rand.Rand) bool {
	if m.has() == m.quota || m.has() > 0 && r.IntN(2) == 0 {
		l := k.List(m.env, api.Frame)
		frame := l[r.IntN(len(l))]
		delete(m.taken, frame)
		return k.Do(m.env, kern.Call{What: kern.Free, H: k.Root(api.Frame, frame)}).Err == api.OK
	}
	reply := k.Do(m.env, kern.Call{What: kern.Bind, A: api.Frame})
	k.Do(m.env, kern.Call{What: kern.Load, H: reply.H, S: "no process's"})
	return reply.N == m.take()
}

func TestManySteps(t *testing.T) { // 23.1 to 23.6, R4, R6: two environments' pages held against the plain model, over many calls, beside a third one's frames
	for seed := range uint64(4) {
		r := rand.New(rand.NewPCG(seed, 23))
		k := machine(t, 40, 14, 20, 4)
		taken := map[int]int{}
		var models [3]*plain
		for i, quota := range []int{14, 20, 4} {
			models[i] = &plain{quota: quota, taken: taken, env: i + 1}
		}
		all := [2]*Pages{New(k, 1), New(k, 2)}
		told := map[api.Errno]int{}
		for i := range 12000 {
			at := r.IntN(2)
			e, answered := step(all[at], models[at], r)
			told[e]++
			looks := same
			if r.IntN(30) == 0 { // not each time: a look at all bytes makes the buffer another one
				looks = alike
			}
			if !answered || !looks(k, all[0], models[0]) || !looks(k, all[1], models[1]) {
				t.Fatalf("step %d differs: %v, %v", i, all[at].List(), models[at].list())
			}
			if r.IntN(10) == 0 && !other(k, models[2], r) {
				t.Fatalf("step %d: another frame", i)
			}
			if r.IntN(100) == 0 {
				all[at] = loaded(t, k, at+1, all[at].List())
			}
		}
		for _, e := range []api.Errno{api.OK, api.ErrArg, api.ErrFull, api.ErrState} {
			if told[e] < 100 {
				t.Errorf("too little was asked: %v %d times", e, told[e])
			}
		}
	}
}
