package hand

import (
	"math"
	"reflect"
	"slices"
	"testing"

	"imago/api"
	"imago/caps"
	"imago/kern"
)

// far are numbers that are none of anything.
var far = []int{math.MinInt, -1 << 32, -1, 64, 255, 256, 1 << 32, 1<<32 + 1, math.MaxInt}

// kinds are those of what is handed over.
var kinds = []int{api.Frame, api.Block}

// machine is a kernel with environments 1 and 2, of version 1. Of frames and of blocks 0, 2, 3, 5 and 6 are bound by environment 1, 1 and 4 by environment 2, of slices 0 and 1. All have bytes of their own.
func machine(t *testing.T) *kern.Kernel {
	t.Helper()
	k, e := kern.New(10, 10, 4)
	if e != api.OK || k.Open(1, 1, [3]int{6, 6, 2}) != api.OK || k.Open(2, 1, [3]int{3, 3, 1}) != api.OK {
		t.Fatal("no machine")
	}
	for i, env := range []int{1, 2, 1, 1, 2, 1, 1} {
		for _, kind := range kinds {
			bind(t, k, env, kind, byte('a'+i))
		}
	}
	k.Do(1, kern.Call{What: kern.Bind, A: api.Slice})
	k.Do(2, kern.Call{What: kern.Bind, A: api.Slice})
	return k
}

// bind binds a frame or a block, all of whose bytes are then c.
func bind(t *testing.T, k *kern.Kernel, env, kind int, c byte) kern.Reply {
	t.Helper()
	what, size := kern.Load, api.FrameSize
	if kind == api.Block {
		what, size = kern.Write, api.BlockSize
	}
	r := k.Do(env, kern.Call{What: kern.Bind, A: kind})
	w := k.Do(env, kern.Call{What: what, H: r.H, S: string(slices.Repeat([]byte{c}, size))})
	if r.Err != api.OK || w.Err != api.OK {
		t.Fatalf("bind: %v, %v", r, w)
	}
	return r
}

// free frees a resource.
func free(t *testing.T, k *kern.Kernel, env, kind, number int) {
	t.Helper()
	if r := k.Do(env, kern.Call{What: kern.Free, H: k.Root(kind, number)}); r.Err != api.OK {
		t.Fatalf("free: %v", r)
	}
}

// resource is what a kernel tells of one.
type resource struct {
	owner int
	root  caps.Handle
	bytes string
}

// picture is all that a kernel tells, but for its queues.
type picture struct {
	versions [4]int // 0: it is not open
	bound    [4][64]resource
	spare    [3]int
	turns    [8]int
}

// pictureOf is a kernel's picture.
func pictureOf(k *kern.Kernel) picture {
	p := picture{spare: k.Spare()}
	for env := 1; env <= api.MaxEnvs; env++ {
		p.versions[env], _ = k.Version(env)
		for kind := api.Frame; kind <= api.Slice; kind++ {
			for _, n := range k.List(env, kind) {
				x := resource{owner: env, root: k.Root(kind, n)}
				switch kind {
				case api.Frame:
					x.bytes = k.Do(env, kern.Call{What: kern.Page, H: x.root}).S
				case api.Block:
					x.bytes = k.Do(env, kern.Call{What: kern.Read, H: x.root}).S
				}
				p.bound[kind][n] = x
			}
		}
	}
	for i := range p.turns {
		p.turns[i] = k.Turn(i)
	}
	return p
}

// is wants that a kernel has this picture.
func (p picture) is(t *testing.T, k *kern.Kernel) {
	t.Helper()
	if now := pictureOf(k); now != p {
		t.Fatalf("%v, not %v", now, p)
	}
}

// handed is the picture behind a handover of this shadow: the environment's others are free, all else is as it was.
func (p picture) handed(env, version int, frames, blocks []int) picture {
	p.versions[env] = version
	for _, kind := range kinds {
		shadow := frames
		if kind == api.Block {
			shadow = blocks
		}
		for n, x := range p.bound[kind] {
			if x.owner == env && !slices.Contains(shadow, n) {
				p.bound[kind][n] = resource{}
				p.spare[kind-1]++
			}
		}
	}
	return p
}

// prepare is a handover that is open.
func prepare(t *testing.T, k *kern.Kernel, env, version int, frames, blocks []int) *Hand {
	t.Helper()
	h, e := Prepare(k, env, version, frames, blocks)
	if e != api.OK || h == nil {
		t.Fatalf("Prepare(%d, %d, %v, %v): %v, %v", env, version, frames, blocks, h, e)
	}
	isOpen(t, h, frames, blocks)
	return h
}

// isOpen wants that a handover is open, with this shadow.
func isOpen(t *testing.T, h *Hand, frames, blocks []int) {
	t.Helper()
	f, b := h.Shadow()
	if !h.Open() || !slices.Equal(f, plainRising(frames)) || !slices.Equal(b, plainRising(blocks)) {
		t.Fatalf("Open: %v, Shadow: %v, %v, not %v, %v", h.Open(), f, b, frames, blocks)
	}
}

// plainRising are numbers from 0 to 63 in their order.
func plainRising(l []int) []int {
	var now []int
	for n := range 64 {
		if slices.Contains(l, n) {
			now = append(now, n)
		}
	}
	return now
}

// isShut wants that a handover is not open, and answers so.
func isShut(t *testing.T, h *Hand) {
	t.Helper()
	for range 2 {
		f, b := h.Shadow()
		if h.Open() || len(f)+len(b) > 0 {
			t.Fatalf("Open: %v, Shadow: %v, %v", h.Open(), f, b)
		}
		if e := h.Commit(); e != api.ErrState {
			t.Fatalf("Commit: %v", e)
		}
		if e := h.Abort(); e != api.ErrState {
			t.Fatalf("Abort: %v", e)
		}
	}
}

// refuses wants that a handover cannot be prepared, and that nothing changes.
func refuses(t *testing.T, k *kern.Kernel, env, version int, frames, blocks []int, want api.Errno) {
	t.Helper()
	p := pictureOf(k)
	h, e := Prepare(k, env, version, frames, blocks)
	if h != nil || e != want {
		t.Fatalf("Prepare(%d, %d, %.60v, %.60v): %v, %v, not %v", env, version, frames, blocks, h, e, want)
	}
	p.is(t, k)
}

// commits wants that a handover is committed.
func commits(t *testing.T, k *kern.Kernel, h *Hand, want picture) {
	t.Helper()
	if e := h.Commit(); e != api.OK {
		t.Fatalf("Commit: %v", e)
	}
	want.is(t, k)
	isShut(t, h)
	want.is(t, k)
}

// sameLists tells whether two lists have the same numbers, without a look at spare room.
func sameLists(a, b []int) bool { return reflect.DeepEqual(slices.Concat(a), slices.Concat(b)) }
