package hand

import (
	"math/rand/v2"
	"testing"

	"imago/api"
	"imago/kern"
)

// dice throws what tests are made of; the same at each run.
type dice struct{ *rand.Rand }

func throw(seed uint64) dice { return dice{rand.New(rand.NewPCG(seed, 32))} }

// plainHand is a handover, by the chapter's words.
type plainHand struct {
	hand           *Hand
	open           bool
	env, version   int
	frames, blocks []int
}

// may tells whether its numbers are the environment's, each told once.
func (p *plainHand) may(now picture) bool {
	for _, kind := range kinds {
		shadow := p.frames
		if kind == api.Block {
			shadow = p.blocks
		}
		var seen [64]bool
		for _, n := range shadow {
			if n < 0 || n > 63 || seen[n] || now.bound[kind][n].owner != p.env {
				return false
			}
			seen[n] = true
		}
	}
	return now.versions[p.env] > 0
}

// numbers are some of an environment's, mostly.
func (d dice) numbers(k *kern.Kernel, env, kind int) []int {
	l := k.List(env, kind)
	d.Shuffle(len(l), func(i, j int) { l[i], l[j] = l[j], l[i] })
	l = l[:d.IntN(len(l)+1)]
	switch d.IntN(12) {
	case 0:
		l = append(l, d.IntN(12)-1)
	case 1:
		if len(l) > 0 {
			l = append(l, l[d.IntN(len(l))])
		}
	}
	return l
}

// stir does something to a kernel: an environment is opened or closed, or asks for something.
func (d dice) stir(k *kern.Kernel) {
	env := 1 + d.IntN(3)
	kind := 1 + d.IntN(3)
	switch d.IntN(12) {
	case 0:
		k.Close(env)
	case 1, 2:
		k.Open(env, 1+d.IntN(2), [3]int{d.IntN(6), d.IntN(6), d.IntN(3)})
	case 3, 4, 5:
		k.Do(env, kern.Call{What: kern.Free, H: k.Root(kind, d.IntN(10))})
	case 6:
		k.Do(env, kern.Call{What: kern.Share, H: k.Root(kind, d.IntN(10)), A: 1 + d.IntN(3), B: 1 + d.IntN(3)})
	case 7:
		k.Do(env, kern.Call{What: kern.Set, H: k.Root(api.Frame, d.IntN(10)), A: d.IntN(16), B: d.IntN(256)})
	default:
		k.Do(env, kern.Call{What: kern.Bind, A: kind})
	}
}

// prepare makes a handover, and holds it against the chapter's words.
func (d dice) prepare(t *testing.T, k *kern.Kernel) plainHand {
	t.Helper()
	p := plainHand{env: d.IntN(5), version: 1 + d.IntN(2)}
	if d.IntN(10) == 0 {
		p.version = d.IntN(4)
	}
	p.frames, p.blocks = d.numbers(k, p.env, api.Frame), d.numbers(k, p.env, api.Block)
	now := pictureOf(k)
	want := api.OK
	switch {
	case p.env < 1 || p.env > 3 || now.versions[p.env] == 0:
		want = api.ErrNone
	case p.version < 1 || p.version > 2:
		want = api.ErrArg
	case !p.may(now):
		want = api.ErrForm
	}
	var e api.Errno
	p.hand, e = Prepare(k, p.env, p.version, p.frames, p.blocks)
	p.open = want == api.OK
	if e != want || (p.hand != nil) != p.open {
		t.Fatalf("Prepare(%v): %v, %v, not %v", p, p.hand, e, want)
	}
	now.is(t, k)
	return p
}

// end commits or aborts a handover, and holds it against the chapter's words.
func (d dice) end(t *testing.T, k *kern.Kernel, p *plainHand) api.Errno {
	t.Helper()
	now := pictureOf(k)
	want, then := api.OK, now
	end := p.hand.Commit
	abort := d.IntN(4) == 0
	switch {
	case !p.open:
		want = api.ErrState
	case abort:
		end = p.hand.Abort
	case !p.may(now):
		want = api.ErrForm
	default:
		then = now.handed(p.env, p.version, p.frames, p.blocks)
	}
	if e := end(); e != want {
		t.Fatalf("the end of %v: %v, not %v", p, e, want)
	}
	p.open = false
	then.is(t, k)
	return want
}

// looks wants that it tells whether it is open, and its shadow.
func (p *plainHand) looks(t *testing.T) {
	t.Helper()
	if p.open {
		isOpen(t, p.hand, p.frames, p.blocks)
	} else if f, b := p.hand.Shadow(); p.hand.Open() || len(f)+len(b) > 0 {
		t.Fatalf("%v: %v, %v, %v", p, p.hand.Open(), f, b)
	}
}

func TestMany(t *testing.T) { // 32.1 to 32.6: held against the plain words, over many kernels, with several handovers at a time
	ends := map[api.Errno]int{}
	for seed := range uint64(120) {
		d := throw(seed)
		k, _ := kern.New(10, 10, 4)
		for env := 1; env <= 3; env++ {
			k.Open(env, 1, [3]int{3, 3, 1})
		}
		hands := make([]plainHand, 4)
		for range 400 {
			p := &hands[d.IntN(len(hands))]
			switch d.IntN(8) {
			case 0, 1:
				*p = d.prepare(t, k)
			case 2:
				ends[d.end(t, k, p)]++
			default:
				d.stir(k)
			}
			for _, p := range hands {
				p.looks(t)
			}
		}
	}
	if ends[api.OK] < 100 || ends[api.ErrForm] < 100 || ends[api.ErrState] < 100 {
		t.Errorf("%v", ends)
	}
}
