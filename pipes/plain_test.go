package pipes

import (
	"math/rand/v2"
	"slices"
	"testing"

	"imago/api"
)

// plain are pipes in the plainest way: those that are there, by their numbers.
type plain map[int]string

// looked is what is wrong with a number.
func (m plain) looked(id int) api.Errno {
	if id < 0 || id > 2 {
		return api.ErrArg
	}
	if _, there := m[id]; !there {
		return api.ErrNone
	}
	return api.OK
}

func (m plain) open() (int, api.Errno) {
	for id := range 3 {
		if _, there := m[id]; !there {
			m[id] = ""
			return id, api.OK
		}
	}
	return 0, api.ErrFull
}

func (m plain) write(id int, s string) api.Errno {
	e := m.looked(id)
	if e == api.OK && len(m[id])+len(s) > 16 {
		return api.ErrFull
	}
	if e == api.OK {
		m[id] += s
	}
	return e
}

func (m plain) read(id, n int) (string, api.Errno) {
	if n < 0 {
		return "", api.ErrArg
	}
	if e := m.looked(id); e != api.OK {
		return "", e
	}
	s := m[id]
	n = min(n, len(s))
	m[id] = s[n:]
	return s[:n], api.OK
}

func (m plain) list() []Info {
	var l []Info
	for id := range 3 {
		if s, there := m[id]; there {
			l = append(l, Info{id, s})
		}
	}
	return l
}

// some is so many bytes at most.
func some(r *rand.Rand, most int) string {
	b := make([]byte, r.IntN(most+1))
	for i := range b {
		b[i] = byte(r.IntN(256))
	}
	return string(b)
}

// step makes one call of both, and tells the error, and whether they answer the same.
func step(p *Pipes, m plain, r *rand.Rand) (api.Errno, bool) {
	id := r.IntN(3)
	if r.IntN(20) == 0 {
		id = r.IntN(9) - 3
	}
	switch what := r.IntN(50); {
	case what < 3:
		want := m.looked(id)
		delete(m, id)
		e := p.Close(id)
		return e, e == want
	case what < 7:
		n, e := p.Open()
		w, f := m.open()
		return e, n == w && e == f
	case what < 28:
		n := r.IntN(20) - 1
		s, e := p.Read(id, n)
		w, f := m.read(id, n)
		return e, s == w && e == f
	}
	s := some(r, 14)
	e := p.Write(id, s)
	return e, e == m.write(id, s)
}

func TestManySteps(t *testing.T) { // 22.1 to 22.4, R4, R6: held against the plain model, over many calls
	for seed := range uint64(4) {
		r := rand.New(rand.NewPCG(seed, 22))
		p, m := New(), plain{}
		told := map[api.Errno]int{}
		for i := range 30000 {
			e, same := step(p, m, r)
			if !same || !slices.Equal(p.List(), m.list()) {
				t.Fatalf("step %d differs: %v, %v", i, p.List(), m.list())
			}
			for id := -1; id <= 3; id++ {
				if n, f := p.Waits(id); n != len(m[id]) || f != m.looked(id) {
					t.Fatalf("step %d: Waits(%d): %d, %v", i, id, n, f)
				}
			}
			told[e]++
			if r.IntN(100) == 0 {
				if p, e = Load(p.List()); e != api.OK {
					t.Fatalf("step %d: Load: %v", i, e)
				}
			}
		}
		for _, e := range []api.Errno{api.OK, api.ErrArg, api.ErrFull, api.ErrNone} {
			if told[e] < 100 {
				t.Errorf("too little was asked: %v %d times", e, told[e])
			}
		}
	}
}
