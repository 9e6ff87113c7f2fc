package files

import (
	"math/rand/v2"
	"slices"
	"testing"

	"imago/api"
	"imago/kern"
)

// plainFile is a file, with all its bytes in one place.
type plainFile struct {
	data   string
	blocks []int
}

// plain are files in the plainest way: those that are there, by their numbers, and how many blocks they may have; taken are the blocks of all on the disk.
type plain struct {
	files map[int]plainFile
	quota int
	taken map[int]int // by whom
	env   int
}

// has is how many blocks an environment has.
func (m *plain) has() int {
	n := 0
	for _, env := range m.taken {
		if env == m.env {
			n++
		}
	}
	return n
}

// take takes the free block of the lowest number.
func (m *plain) take() int {
	block := 0
	for m.taken[block] != 0 {
		block++
	}
	m.taken[block] = m.env
	return block
}

// looked is what is wrong with a number.
func (m *plain) looked(id int) api.Errno {
	if id < 0 || id > 3 {
		return api.ErrArg
	}
	if _, there := m.files[id]; !there {
		return api.ErrNone
	}
	return api.OK
}

func (m *plain) make(id int) api.Errno {
	e := m.looked(id)
	if e == api.ErrNone {
		m.files[id] = plainFile{}
		return api.OK
	}
	return e
}

func (m *plain) cut(id int) api.Errno {
	e := m.looked(id)
	if e == api.OK {
		for _, block := range m.files[id].blocks {
			delete(m.taken, block)
		}
		m.files[id] = plainFile{}
	}
	return e
}

func (m *plain) read(id, from, n int) (string, api.Errno) {
	if from < 0 || n < 0 {
		return "", api.ErrArg
	}
	if e := m.looked(id); e != api.OK {
		return "", e
	}
	var b []byte
	for i, c := range []byte(m.files[id].data) {
		if i >= from && i < from+n {
			b = append(b, c)
		}
	}
	return string(b), api.OK
}

func (m *plain) write(id, from int, s string) api.Errno {
	if from < 0 {
		return api.ErrArg
	}
	if e := m.looked(id); e != api.OK {
		return e
	}
	o := m.files[id]
	data, may := after(o.data, from, s)
	more := (len(data)+7)/8 - len(o.blocks)
	if !may || m.has()+more > m.quota {
		return api.ErrFull
	}
	for range more {
		o.blocks = append(o.blocks, m.take())
	}
	o.data = data
	m.files[id] = o
	return api.OK
}

// some is so many bytes at most.
func some(r *rand.Rand, most int) string {
	b := make([]byte, r.IntN(most+1))
	for i := range b {
		b[i] = byte(r.IntN(256))
	}
	return string(b)
}

// step makes one call of both, and tells the error, and whether they answer the same.
func step(f *Files, m *plain, r *rand.Rand) (api.Errno, bool) {
	id := r.IntN(4)
	if r.IntN(20) == 0 {
		id = r.IntN(10) - 3
	}
	switch what := r.IntN(40); {
	case what < 3:
		e := f.Make(id)
		return e, e == m.make(id)
	case what < 8:
		e := f.Cut(id)
		return e, e == m.cut(id)
	case what < 20:
		from, n := r.IntN(40)-2, r.IntN(40)-2
		s, e := f.Read(id, from, n)
		w, x := m.read(id, from, n)
		return e, s == w && e == x
	}
	from, s := r.IntN(36)-1, some(r, 12)
	e := f.Write(id, from, s)
	return e, e == m.write(id, from, s)
}

// alike tells whether both have the same files, in the same blocks, and the kernel no others.
func alike(k *kern.Kernel, f *Files, m *plain) bool {
	l, blocks := f.List(), []int(nil)
	for id := -1; id <= 4; id++ {
		o, there := m.files[id]
		if n, e := f.Size(id); n != len(o.data) || e != m.looked(id) {
			return false
		}
		if !there {
			continue
		}
		if len(l) == 0 || l[0].ID != id || l[0].Size != len(o.data) || !slices.Equal(l[0].Blocks, o.blocks) {
			return false
		}
		if s, e := f.Read(id, 0, 32); s != o.data || e != api.OK {
			return false
		}
		l = l[1:]
		blocks = append(blocks, o.blocks...)
	}
	slices.Sort(blocks)
	return len(l) == 0 && f.Blocks() == len(blocks) && slices.Equal(k.List(m.env, api.Block), blocks)
}

// other does something with blocks that are no files'.
func other(k *kern.Kernel, m *plain, r *rand.Rand) bool {
	if m.has() == m.quota || m.has() > 0 && r.IntN(2) == 0 {
		l := k.List(m.env, api.Block)
		block := l[r.IntN(len(l))]
		delete(m.taken, block)
		return k.Do(m.env, kern.Call{What: kern.Free, H: k.Root(api.Block, block)}).Err == api.OK
	}
	reply := k.Do(m.env, kern.Call{What: kern.Bind, A: api.Block})
	k.Do(m.env, kern.Call{What: kern.Write, H: reply.H, S: "not this"})
	return reply.N == m.take()
}

// without is the list of all files, but for one that is cut ahead of that: no block is left over.
func without(f *Files, m *plain, id int) []Info {
	f.Cut(id)
	m.cut(id)
	delete(m.files, id)
	return slices.DeleteFunc(f.List(), func(i Info) bool { return i.ID == id })
}

func TestManySteps(t *testing.T) { // 21.1 to 21.6, R4, R6: two environments' files held against the plain model, over many calls, beside a third one's blocks
	for seed := range uint64(4) {
		r := rand.New(rand.NewPCG(seed, 21))
		k := machine(t, 20, 7, 9, 4)
		taken := map[int]int{}
		var all [2]*Files
		var models [3]*plain
		for i, quota := range []int{7, 9, 4} {
			models[i] = &plain{files: map[int]plainFile{}, quota: quota, taken: taken, env: i + 1}
		}
		all[0], all[1] = New(k, 1), New(k, 2)
		told := map[api.Errno]int{}
		for i := range 10000 {
			at := r.IntN(2)
			e, same := step(all[at], models[at], r)
			told[e]++
			if !same || !alike(k, all[0], models[0]) || !alike(k, all[1], models[1]) {
				t.Fatalf("step %d differs: %v, %v", i, all[at].List(), models[at])
			}
			if r.IntN(10) == 0 && !other(k, models[2], r) {
				t.Fatalf("step %d: another block", i)
			}
			if r.IntN(100) == 0 {
				all[at] = loaded(t, k, at+1, without(all[at], models[at], r.IntN(4)))
			}
		}
		for _, e := range []api.Errno{api.OK, api.ErrArg, api.ErrFull, api.ErrNone} {
			if told[e] < 100 {
				t.Errorf("too little was asked: %v %d times", e, told[e])
			}
		}
	}
}
