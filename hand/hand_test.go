package hand

import (
	"slices"
	"testing"

	"imago/api"
	"imago/caps"
	"imago/kern"
)

func TestExample(t *testing.T) { // 32.1, 32.2: the chapter's example
	k, _ := kern.New(8, 8, 4)
	k.Open(1, 1, [3]int{4, 4, 1})
	for range 3 {
		k.Do(1, kern.Call{What: kern.Bind, A: api.Frame})
	}
	h := prepare(t, k, 1, 2, []int{0, 2}, nil)
	if e := h.Commit(); e != api.OK {
		t.Fatal(e)
	}
	v, _ := k.Version(1)
	if l := k.List(1, api.Frame); !slices.Equal(l, []int{0, 2}) || v != 2 {
		t.Errorf("frames %v, version %d", l, v)
	}
}

func TestPrepare(t *testing.T) { // 32.1, 32.3, 32.5: an open handover, with its shadow rising; nothing else changes
	k := machine(t)
	p := pictureOf(k)
	for _, c := range []struct{ frames, blocks []int }{
		{nil, nil},
		{[]int{}, []int{}}, // R2
		{[]int{0}, nil},
		{nil, []int{6}},
		{[]int{6, 0, 3}, []int{2, 0}},
		{[]int{5, 3, 2}, []int{6, 5, 3, 2, 0}},
		{[]int{0, 2, 3, 5, 6}, []int{3, 0, 6, 5, 2}},
	} {
		for version := 1; version <= 2; version++ {
			h := prepare(t, k, 1, version, c.frames, c.blocks)
			p.is(t, k)
			isOpen(t, h, c.frames, c.blocks)
			if e := h.Abort(); e != api.OK {
				t.Errorf("Abort: %v", e)
			}
			isShut(t, h)
			p.is(t, k)
		}
	}
	prepare(t, k, 2, 2, []int{4, 1}, []int{1})
	p.is(t, k)
}

func TestNoEnvironment(t *testing.T) { // 32.1, R1: ErrNone ahead of all else, of a nil kernel, too
	k := machine(t)
	for _, env := range append([]int{0, 3, 4}, far...) {
		refuses(t, k, env, 2, nil, nil, api.ErrNone)
		refuses(t, k, env, 0, []int{0, 0}, []int{-1}, api.ErrNone)
	}
	for _, none := range []*kern.Kernel{nil, {}} {
		if h, e := Prepare(none, 1, 2, nil, nil); h != nil || e != api.ErrNone {
			t.Errorf("Prepare: %v, %v", h, e)
		}
		if h, e := Prepare(none, 1, 9, []int{1}, nil); h != nil || e != api.ErrNone {
			t.Errorf("Prepare: %v, %v", h, e)
		}
	}
	k.Close(1)
	refuses(t, k, 1, 2, nil, nil, api.ErrNone)
}

func TestNoVersion(t *testing.T) { // 32.1, R1: ErrArg ahead of wrong numbers
	k := machine(t)
	for _, version := range append([]int{0, 3, 257, 258}, far...) {
		refuses(t, k, 1, version, []int{0}, []int{0}, api.ErrArg)
		refuses(t, k, 1, version, []int{0, 0}, []int{9}, api.ErrArg)
	}
}

func TestWrongNumbers(t *testing.T) { // 32.1: ErrForm: a number that stands there twice, or is none of the environment's
	k := machine(t)
	k.Do(2, kern.Call{What: kern.Share, H: k.Root(api.Frame, 1), A: 1, B: caps.Use | caps.Grant}) // a frame that is shared with it is not the environment's
	k.Do(2, kern.Call{What: kern.Share, H: k.Root(api.Block, 1), A: 1, B: caps.Use | caps.Grant})
	for _, wrong := range [][]int{{1}, {4}, {7}, {9}, {10}, {0, 1}, {7, 0}, {0, 2, 3, 5, 6, 4}, {0, 0}, {0, 2, 0}, {6, 2, 3, 6}, {2, 3, 5, 6, 0, 5}, {0, 0, 0}, {1, 1}} {
		refuses(t, k, 1, 2, wrong, nil, api.ErrForm)
		refuses(t, k, 1, 1, nil, wrong, api.ErrForm)
		refuses(t, k, 1, 2, wrong, []int{0, 2}, api.ErrForm)
		refuses(t, k, 1, 2, []int{6, 3}, wrong, api.ErrForm)
		refuses(t, k, 1, 2, wrong, wrong, api.ErrForm)
	}
	for _, n := range far {
		refuses(t, k, 1, 2, []int{n}, nil, api.ErrForm)
		refuses(t, k, 1, 2, nil, []int{n}, api.ErrForm)
		refuses(t, k, 1, 2, []int{0, 2, n, 3}, []int{0}, api.ErrForm)
		refuses(t, k, 1, 2, []int{0}, []int{2, n, 0}, api.ErrForm)
	}
	free(t, k, 1, api.Block, 0) // the two kinds are not mixed up
	free(t, k, 1, api.Frame, 6)
	refuses(t, k, 1, 2, []int{0}, []int{0}, api.ErrForm)
	refuses(t, k, 1, 2, []int{6}, []int{6}, api.ErrForm)
	prepare(t, k, 1, 2, []int{0}, []int{6})
}

func TestLongLists(t *testing.T) { // the bound: lists of very many numbers have one twice
	k := machine(t)
	long := make([]int, 1<<20)
	refuses(t, k, 1, 2, long, nil, api.ErrForm)
	refuses(t, k, 1, 2, nil, long, api.ErrForm)
	for i := range long {
		long[i] = i
	}
	refuses(t, k, 1, 2, long, nil, api.ErrForm)
	refuses(t, k, 1, 2, nil, long, api.ErrForm)
}

func TestCommit(t *testing.T) { // 32.2, 32.4, 32.6: what is not in the shadow is free, the version is the new one; all else is as it was
	for _, c := range []struct{ frames, blocks []int }{
		{nil, nil},
		{[]int{0}, nil},
		{nil, []int{6}},
		{[]int{6, 0, 3}, []int{2, 0}},
		{[]int{0, 2, 3, 5, 6}, []int{3}},
		{[]int{2}, []int{0, 2, 3, 5, 6}},
		{[]int{0, 2, 3, 5, 6}, []int{0, 2, 3, 5, 6}},
	} {
		for version := 1; version <= 2; version++ {
			k := machine(t)
			h := prepare(t, k, 1, version, c.frames, c.blocks)
			commits(t, k, h, pictureOf(k).handed(1, version, c.frames, c.blocks))
			if f, b := k.List(1, api.Frame), k.List(1, api.Block); !sameLists(f, plainRising(c.frames)) || !sameLists(b, plainRising(c.blocks)) {
				t.Errorf("frames %v, blocks %v", f, b)
			}
			h = prepare(t, k, 1, 3-version, nil, c.blocks) // and once more
			commits(t, k, h, pictureOf(k).handed(1, 3-version, nil, c.blocks))
		}
	}
}

func TestHandles(t *testing.T) { // 32.2, 32.6: handles of what is in the shadow stay good, those of what others shared, too; those of what is free are stale
	k := machine(t)
	share := func(env, frame, to int) caps.Handle {
		r := k.Do(env, kern.Call{What: kern.Share, H: k.Root(api.Frame, frame), A: to, B: caps.Use})
		if r.Err != api.OK {
			t.Fatal(r)
		}
		return r.H
	}
	kept, gone, lent := share(1, 2, 2), share(1, 3, 2), share(2, 4, 1)
	root := k.Root(api.Frame, 3)
	h := prepare(t, k, 1, 2, []int{2}, nil)
	commits(t, k, h, pictureOf(k).handed(1, 2, []int{2}, nil))
	for _, c := range []struct {
		env  int
		h    caps.Handle
		want api.Errno
	}{{2, kept, api.OK}, {2, gone, api.ErrStale}, {1, root, api.ErrStale}, {1, lent, api.OK}} {
		if r := k.Do(c.env, kern.Call{What: kern.Page, H: c.h}); r.Err != c.want {
			t.Errorf("%v of %d: %v, not %v", c.h, c.env, r.Err, c.want)
		}
	}
}

func TestQueues(t *testing.T) { // 32.2: messages and upcalls wait on
	k := machine(t)
	for env := 1; env <= 2; env++ {
		k.Do(env, kern.Call{What: kern.Send, A: 1, B: 500 + env})
	}
	prepare(t, k, 1, 2, nil, nil).Abort()
	prepare(t, k, 1, 2, nil, nil).Commit()
	for env := 1; env <= 2; env++ {
		m, u := k.Do(1, kern.Call{What: kern.Receive}), k.Do(1, kern.Call{What: kern.Upcall})
		if m.N != env<<16+500+env || u.N != 3<<16+env {
			t.Errorf("%v, %v", m, u)
		}
	}
}

func TestCommitThatFails(t *testing.T) { // 32.2: ErrForm, if one is not the environment's any more, or it is not open; it is not open any more, nothing else changes
	fails := func(what string, h *Hand, k *kern.Kernel) {
		t.Helper()
		p := pictureOf(k)
		if e := h.Commit(); e != api.ErrForm {
			t.Fatalf("%s: %v", what, e)
		}
		p.is(t, k)
		isShut(t, h)
		p.is(t, k)
	}
	for _, kind := range kinds {
		for _, n := range []int{0, 3, 6} {
			k := machine(t)
			h := prepare(t, k, 1, 2, []int{0, 3, 6}, []int{6, 0, 3})
			free(t, k, 1, kind, n)
			fails("freed", h, k)

			k = machine(t)
			h = prepare(t, k, 1, 2, []int{0, 3, 6}, []int{6, 0, 3})
			free(t, k, 1, kind, n)
			bind(t, k, 2, kind, 'z') // the lowest free one: n
			fails("another's", h, k)
		}
	}
	for _, shadow := range [][]int{nil, {0}} {
		k := machine(t)
		h := prepare(t, k, 1, 2, shadow, shadow)
		k.Close(1)
		fails("closed", h, k)
	}
	k := machine(t)
	h := prepare(t, k, 1, 2, []int{0}, nil)
	k.Close(1)
	k.Open(1, 1, [3]int{5, 5, 1})
	fails("opened anew", h, k)
}

func TestCommitOfWhatIsBack(t *testing.T) { // 32.2: what was bound behind Prepare, and is none of the shadow, is free; what was freed and is the environment's again is right
	k := machine(t)
	h := prepare(t, k, 1, 2, []int{0}, []int{3})
	free(t, k, 1, api.Frame, 0)
	bind(t, k, 1, api.Frame, 'x') // 0
	free(t, k, 1, api.Frame, 6)
	bind(t, k, 1, api.Frame, 'y')
	bind(t, k, 1, api.Block, 'y')
	commits(t, k, h, pictureOf(k).handed(1, 2, []int{0}, []int{3}))

	k = machine(t)
	h = prepare(t, k, 1, 2, nil, nil)
	k.Close(1)
	k.Open(1, 1, [3]int{5, 5, 1})
	bind(t, k, 1, api.Frame, 'x')
	bind(t, k, 1, api.Block, 'x')
	commits(t, k, h, pictureOf(k).handed(1, 2, nil, nil))
}

func TestSeveral(t *testing.T) { // 32.1, 32.2: each handover stands by itself
	k := machine(t)
	all := []int{0, 2, 3, 5, 6}
	a, b, c, d := prepare(t, k, 1, 2, all, all), prepare(t, k, 1, 1, []int{2, 3}, all), prepare(t, k, 1, 2, []int{3}, nil), prepare(t, k, 2, 2, []int{1}, []int{4})
	commits(t, k, b, pictureOf(k).handed(1, 1, []int{2, 3}, all))
	isOpen(t, a, all, all)
	p := pictureOf(k)
	if e := a.Commit(); e != api.ErrForm {
		t.Errorf("Commit: %v", e)
	}
	p.is(t, k)
	commits(t, k, c, p.handed(1, 2, []int{3}, nil))
	commits(t, k, d, pictureOf(k).handed(2, 2, []int{1}, []int{4}))
	isShut(t, a)
}

func TestNone(t *testing.T) { // 32.3, R6: a nil handover, and one that nobody prepared, are not open
	isShut(t, nil)
	isShut(t, &Hand{})
}

func TestListsAreNotKept(t *testing.T) { // R3: what is handed in is not changed and not kept, answers are new, spare room too
	k := machine(t)
	frames, blocks := append(make([]int, 0, 9), 6, 0, 3), append(make([]int, 0, 9), 5, 2)
	h := prepare(t, k, 1, 2, frames, blocks)
	if !slices.Equal(frames[:9], []int{6, 0, 3, 0, 0, 0, 0, 0, 0}) || !slices.Equal(blocks[:9], []int{5, 2, 0, 0, 0, 0, 0, 0, 0}) {
		t.Errorf("%v, %v", frames[:9], blocks[:9])
	}
	wipe(frames)
	wipe(blocks)
	for range 2 {
		f, b := h.Shadow()
		if !slices.Equal(f, []int{0, 3, 6}) || !slices.Equal(b, []int{2, 5}) {
			t.Errorf("Shadow: %v, %v", f, b)
		}
		wipe(f)
		if !slices.Equal(b, []int{2, 5}) {
			t.Errorf("Shadow: %v", b)
		}
		wipe(b)
	}
	commits(t, k, h, pictureOf(k).handed(1, 2, []int{0, 3, 6}, []int{2, 5}))

	k = machine(t)
	one := []int{3, 2}
	h = prepare(t, k, 1, 2, one, one)
	f, b := h.Shadow()
	wipe(f)
	if !slices.Equal(b, []int{2, 3}) || !slices.Equal(one, []int{3, 2}) {
		t.Errorf("%v, %v", b, one)
	}
}

// wipe changes a list, with its spare room.
func wipe(l []int) {
	for i := range l[:cap(l)] {
		l[:cap(l)][i] = 5
	}
}
