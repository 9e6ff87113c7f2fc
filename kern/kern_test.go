package kern

import (
	"math"
	"slices"
	"strings"
	"testing"

	"imago/api"
	"imago/caps"
)

// both are both rights.
const both = caps.Use | caps.Grant

// mostPaid is for how many capabilities an environment pays.
const mostPaid = 42

// far are numbers that are no environment and no kind.
var far = []int{math.MinInt, -1, 0, 4, math.MaxInt}

func is(t *testing.T, e, want api.Errno) {
	t.Helper()
	if e != want {
		t.Errorf("%v, not %v", e, want)
	}
}

// zeros are so many bytes 0.
func zeros(n int) string { return strings.Repeat("\x00", n) }

// filled is s, with bytes 0 behind it up to n.
func filled(s string, n int) string { return s + zeros(n-len(s)) }

// opened is a kernel of these totals, in which environments 1, 2 .. are open with these quotas, with version 1.
func opened(t *testing.T, totals [3]int, quotas ...[3]int) *Kernel {
	t.Helper()
	k, e := New(totals[0], totals[1], totals[2])
	if e != api.OK || k == nil {
		t.Fatalf("New(%v): %v, %v", totals, k, e)
	}
	for i, quota := range quotas {
		if e := k.Open(i+1, 1, quota); e != api.OK {
			t.Fatalf("Open(%d, 1, %v): %v", i+1, quota, e)
		}
	}
	return k
}

// three is a kernel in which all environments are open.
func three(t *testing.T) *Kernel {
	t.Helper()
	return opened(t, [3]int{64, 64, 64}, [3]int{20, 20, 20}, [3]int{20, 20, 20}, [3]int{20, 20, 20})
}

// answers wants just this reply.
func answers(t *testing.T, k *Kernel, env int, c Call, want Reply) {
	t.Helper()
	if r := k.Do(env, c); r != want {
		t.Errorf("Do(%d, %#v): %#v, not %#v", env, c, r, want)
	}
}

// bind wants that the resource of this number is bound, and is its root.
func bind(t *testing.T, k *Kernel, env, kind, want int) caps.Handle {
	t.Helper()
	r := k.Do(env, Call{What: Bind, A: kind})
	if r.H != k.Root(kind, want) || r.H == (caps.Handle{}) || (r != Reply{N: want, H: r.H}) {
		t.Fatalf("Bind(%d, %d): %v, not %d", env, kind, r, want)
	}
	return r.H
}

func share(t *testing.T, k *Kernel, env int, h caps.Handle, to, rights int) caps.Handle {
	t.Helper()
	r := k.Do(env, Call{What: Share, H: h, A: to, B: rights})
	if (r != Reply{H: r.H}) {
		t.Fatalf("Share(%d, %v, %d, %d): %v", env, h, to, rights, r)
	}
	return r.H
}

func free(t *testing.T, k *Kernel, env int, h caps.Handle) {
	t.Helper()
	answers(t, k, env, Call{What: Free, H: h}, Reply{})
}

func load(t *testing.T, k *Kernel, env int, h caps.Handle, s string) {
	t.Helper()
	answers(t, k, env, Call{What: Load, H: h, S: s}, Reply{})
}

func write(t *testing.T, k *Kernel, env int, h caps.Handle, s string) {
	t.Helper()
	answers(t, k, env, Call{What: Write, H: h, S: s}, Reply{})
}

// page wants a frame's bytes.
func page(t *testing.T, k *Kernel, env int, h caps.Handle, want string) {
	t.Helper()
	answers(t, k, env, Call{What: Page, H: h}, Reply{S: want})
}

// reads wants a block's bytes.
func reads(t *testing.T, k *Kernel, env int, h caps.Handle, want string) {
	t.Helper()
	answers(t, k, env, Call{What: Read, H: h}, Reply{S: want})
}

// send sends from one to another, word by word.
func send(t *testing.T, k *Kernel, from, to int, words ...int) {
	t.Helper()
	for _, w := range words {
		answers(t, k, from, Call{What: Send, A: to, B: w}, Reply{})
	}
}

// receives wants these messages of an environment, and then no more.
func receives(t *testing.T, k *Kernel, env int, want ...int) {
	t.Helper()
	for _, n := range want {
		answers(t, k, env, Call{What: Receive}, Reply{N: n})
	}
	answers(t, k, env, Call{What: Receive}, Reply{Err: api.ErrNone})
}

// upcalls wants that an environment is called up to for messages of these senders, and then no more.
func upcalls(t *testing.T, k *Kernel, env int, senders ...int) {
	t.Helper()
	for _, n := range senders {
		answers(t, k, env, Call{What: Upcall}, Reply{N: 3*65536 + n})
	}
	answers(t, k, env, Call{What: Upcall}, Reply{Err: api.ErrState})
}

func spare(t *testing.T, k *Kernel, want ...int) {
	t.Helper()
	if k.Spare() != [3]int(want) {
		t.Errorf("Spare: %v, not %v", k.Spare(), want)
	}
}

func list(t *testing.T, k *Kernel, env, kind int, want ...int) {
	t.Helper()
	if l := k.List(env, kind); !slices.Equal(l, want) {
		t.Errorf("List(%d, %d): %v, not %v", env, kind, l, want)
	}
}

func runs(t *testing.T, k *Kernel, env, version int) {
	t.Helper()
	if v, e := k.Version(env); v != version || e != api.OK {
		t.Errorf("Version(%d): %d, %v, not %d", env, v, e, version)
	}
}

// all is what a kernel tells without a change, whoever asks.
type all struct {
	versions [5]int
	open     [5]api.Errno
	lists    [5][5][66]bool
	roots    [5][66]caps.Handle
	spare    [3]int
	turns    [200]int
	pages    [66]string
	blocks   [66]string
}

func tell(k *Kernel) all {
	a := all{spare: k.Spare()}
	for env := range 5 {
		a.versions[env], a.open[env] = k.Version(env)
		for kind := range 5 {
			for _, number := range k.List(env, kind) {
				a.lists[env][kind][number] = true
			}
		}
		for _, number := range k.List(env, api.Frame) {
			a.pages[number] = k.Do(env, Call{What: Page, H: k.Root(api.Frame, number)}).S
		}
		for _, number := range k.List(env, api.Block) {
			a.blocks[number] = k.Do(env, Call{What: Read, H: k.Root(api.Block, number)}).S
		}
	}
	for kind := range 5 {
		for number := range 66 {
			a.roots[kind][number] = k.Root(kind, number-1)
		}
	}
	for i := range a.turns {
		a.turns[i] = k.Turn(i - 100)
	}
	return a
}

// keeps wants that a kernel tells the same behind do.
func keeps(t *testing.T, k *Kernel, do func()) {
	t.Helper()
	before := tell(k)
	do()
	if tell(k) != before {
		t.Error("something changed")
	}
}

// fails wants that each of these calls of an environment answers just this error, and changes nothing.
func fails(t *testing.T, k *Kernel, env int, want api.Errno, calls ...Call) {
	t.Helper()
	keeps(t, k, func() {
		for _, c := range calls {
			answers(t, k, env, c, Reply{Err: want})
		}
	})
}

// byHandle are all calls that name something by a handle, with fields that are right beside it; other is a frame's handle that is right.
func byHandle(h, other caps.Handle) []Call {
	return []Call{
		{What: Free, H: h}, {What: Share, H: h, A: 1, B: caps.Use}, {What: Revoke, H: h},
		{What: Get, H: h}, {What: Set, H: h, B: 7}, {What: Copy, H: h, H2: other}, {What: Copy, H: other, H2: h},
		{What: Page, H: h}, {What: Load, H: h, S: "load"}, {What: Read, H: h}, {What: Write, H: h, S: "disk"},
	}
}

// notOpen wants that an environment is not open: of every call ErrNone, whatever else is wrong, and nothing is its.
func notOpen(t *testing.T, k *Kernel, env int) {
	t.Helper()
	if v, e := k.Version(env); v != 0 || e != api.ErrNone {
		t.Errorf("Version(%d): %d, %v", env, v, e)
	}
	is(t, k.Close(env), api.ErrNone)
	for _, n := range append([]int{1, 2, 3}, far...) {
		is(t, k.Change(env, n), api.ErrNone)
		list(t, k, env, n)
	}
	keeps(t, k, func() {
		for _, what := range []int{math.MinInt, -1, 0, 1, 2, 3, 4, 5, 6, 7, 8, 9, 10, 11, 12, 13, 14, 15, math.MaxInt} {
			for _, h := range []caps.Handle{{}, {Slot: 0, Gen: 1}, k.Root(api.Frame, 0), k.Root(api.Block, 0)} {
				answers(t, k, env, Call{What: what, A: 1, B: 1, H: h, H2: h}, Reply{Err: api.ErrNone})
				answers(t, k, env, Call{What: what, A: 99, B: 70000, H: h, H2: h, S: zeros(99)}, Reply{Err: api.ErrNone})
			}
		}
	})
}

func TestConstants(t *testing.T) { // the table's numbers
	got := []int{Bind, Free, Share, Revoke, Get, Set, Copy, Page, Load, Read, Write, Send, Receive, Upcall}
	if !slices.Equal(got, []int{1, 2, 3, 4, 5, 6, 7, 8, 9, 10, 11, 12, 13, 14}) {
		t.Errorf("%v", got)
	}
}

func TestNew(t *testing.T) { // 14.1: each from 1 to 64; all is free, and nobody is there
	for i := range 3 {
		for _, n := range []int{math.MinInt, -1, 0, 65, math.MaxInt} {
			totals := [3]int{1, 2, 3}
			totals[i] = n
			if k, e := New(totals[0], totals[1], totals[2]); k != nil || e != api.ErrArg {
				t.Errorf("New(%v): %v, %v", totals, k, e)
			}
		}
	}
	for _, totals := range [][3]int{{1, 1, 1}, {64, 64, 64}, {64, 1, 2}, {1, 64, 3}, {2, 3, 64}} {
		k := opened(t, totals)
		spare(t, k, totals[:]...)
		for _, env := range append([]int{1, 2, 3}, far...) {
			notOpen(t, k, env)
		}
		is(t, k.Open(1, 1, totals), api.OK)
		for number := range min(totals[0], 10) {
			h := bind(t, k, 1, api.Frame, number)
			load(t, k, 1, h, "frame")
			page(t, k, 1, h, filled("frame", 16))
		}
		for number := range min(totals[1], 10) {
			h := bind(t, k, 1, api.Block, number)
			write(t, k, 1, h, "block")
			reads(t, k, 1, h, filled("block", 8))
		}
		for number := range min(totals[2], 10) {
			bind(t, k, 1, api.Slice, number)
		}
	}
}

func TestAllThereIs(t *testing.T) { // 14.1: up to the last frame, block and slice, of number 63; each has bytes of its own
	for kind := api.Frame; kind <= api.Slice; kind++ {
		quota := [3]int{}
		quota[kind-1] = 32
		k := opened(t, [3]int{64, 64, 64}, quota, quota)
		for number := range 64 {
			env := 1 + number/32
			h := bind(t, k, env, kind, number)
			if kind == api.Frame {
				load(t, k, env, h, string(rune(number+32)))
			}
			if kind == api.Block {
				write(t, k, env, h, string(rune(number+32)))
			}
		}
		for number := range 64 {
			env := 1 + number/32
			if kind == api.Frame {
				page(t, k, env, k.Root(kind, number), filled(string(rune(number+32)), 16))
			}
			if kind == api.Block {
				reads(t, k, env, k.Root(kind, number), filled(string(rune(number+32)), 8))
			}
			if kind == api.Slice && k.Turn(number) != env {
				t.Errorf("Turn(%d): %d", number, k.Turn(number))
			}
		}
		free := [3]int{64, 64, 64}
		free[kind-1] = 0
		spare(t, k, free[:]...)
		fails(t, k, 1, api.ErrQuota, Call{What: Bind, A: kind})
	}
}

func TestTwoByThemselves(t *testing.T) { // 14.1: two kernels have nothing together
	k, o := three(t), three(t)
	h := bind(t, k, 1, api.Frame, 0)
	load(t, k, 1, h, "mine")
	send(t, k, 1, 2, 7)
	spare(t, o, 64, 64, 64)
	receives(t, o, 2)
	upcalls(t, o, 2)
	fails(t, o, 1, api.ErrStale, byHandle(h, caps.Handle{})[0])
	g := bind(t, o, 1, api.Frame, 0)
	page(t, o, 1, g, zeros(16))
	page(t, k, 1, h, filled("mine", 16))
}

func TestOpen(t *testing.T) { // 14.1: envs.Open's errors, then binds.Open's
	k := opened(t, [3]int{8, 8, 4}, [3]int{5, 5, 2})
	bad := [][3]int{{-1, 0, 0}, {0, -1, 0}, {0, 0, math.MinInt}}
	keeps(t, k, func() {
		for _, quota := range append([][3]int{{}, {9, 9, 9}}, bad...) {
			for _, env := range far {
				is(t, k.Open(env, 1, quota), api.ErrArg)
			}
			for _, version := range append([]int{3}, far...) {
				is(t, k.Open(1, version, quota), api.ErrArg)
				is(t, k.Open(2, version, quota), api.ErrArg)
			}
			is(t, k.Open(1, 2, quota), api.ErrSame)
		}
		for _, quota := range bad {
			is(t, k.Open(2, 1, quota), api.ErrArg)
			is(t, k.Open(3, 2, quota), api.ErrArg)
		}
		for _, quota := range [][3]int{{4, 1, 1}, {0, 4, 0}, {0, 0, 3}, {math.MaxInt, 0, 0}} {
			is(t, k.Open(2, 1, quota), api.ErrFull)
			is(t, k.Open(3, 2, quota), api.ErrFull)
		}
	})
	notOpen(t, k, 2)
	notOpen(t, k, 3)
	is(t, k.Open(2, 2, [3]int{3, 3, 2}), api.OK)
	runs(t, k, 1, 1)
	runs(t, k, 2, 2)
	receives(t, k, 2)
	upcalls(t, k, 2)
	is(t, k.Open(3, 1, [3]int{}), api.OK)
	fails(t, k, 3, api.ErrQuota, Call{What: Bind, A: 1}, Call{What: Bind, A: 2}, Call{What: Bind, A: 3})
	bind(t, k, 2, api.Slice, 0)
	bind(t, k, 2, api.Slice, 1)
	fails(t, k, 2, api.ErrQuota, Call{What: Bind, A: 3})
}

func TestClose(t *testing.T) { // 14.1: what is its is free, its handles and those below them are stale; the others' stay
	k := three(t)
	frame, block := bind(t, k, 1, api.Frame, 0), bind(t, k, 1, api.Block, 0)
	slice := bind(t, k, 1, api.Slice, 0)
	other, disk := bind(t, k, 2, api.Frame, 1), bind(t, k, 2, api.Block, 1)
	load(t, k, 2, other, "other")
	write(t, k, 2, disk, "disk")
	lent, back := share(t, k, 1, frame, 2, both), share(t, k, 2, other, 1, both)
	below := share(t, k, 1, back, 3, both)
	is(t, k.Close(1), api.OK)
	notOpen(t, k, 1)
	spare(t, k, 63, 63, 64)
	for _, h := range []caps.Handle{frame, block, slice, lent, back, below} {
		fails(t, k, 2, api.ErrStale, byHandle(h, other)...)
	}
	fails(t, k, 3, api.ErrStale, Call{What: Page, H: below})
	page(t, k, 2, other, filled("other", 16))
	reads(t, k, 2, disk, filled("disk", 8))
	list(t, k, 2, api.Frame, 1)
	if k.Turn(0) != 0 {
		t.Errorf("Turn(0): %d", k.Turn(0))
	}
	is(t, k.Open(1, 2, [3]int{20, 20, 20}), api.OK)
	runs(t, k, 1, 2)
	for _, h := range []caps.Handle{frame, block, slice, back} {
		fails(t, k, 1, api.ErrStale, Call{What: Free, H: h}, Call{What: Page, H: h}, Call{What: Read, H: h})
	}
	bind(t, k, 1, api.Frame, 0)
}

func TestCloseClears(t *testing.T) { // 14.1: messages to it and from it, and the calls up to it; no other message
	k := three(t)
	send(t, k, 1, 2, 10)
	send(t, k, 3, 2, 30)
	send(t, k, 2, 3, 20)
	send(t, k, 1, 3, 11)
	send(t, k, 2, 1, 21)
	send(t, k, 1, 1, 12)
	is(t, k.Close(1), api.OK)
	receives(t, k, 2, 3*65536+30)
	receives(t, k, 3, 2*65536+20)
	is(t, k.Open(1, 1, [3]int{}), api.OK)
	receives(t, k, 1)
	upcalls(t, k, 1)
	send(t, k, 1, 2, 13)
	receives(t, k, 2, 1*65536+13)
}

func TestNotOpen(t *testing.T) { // 14.2: ErrNone ahead of all else
	k := opened(t, [3]int{8, 8, 8}, [3]int{4, 4, 4})
	bind(t, k, 1, api.Frame, 0)
	bind(t, k, 1, api.Block, 0)
	for _, env := range append([]int{2, 3}, far...) {
		notOpen(t, k, env)
	}
}

func TestWrongWhat(t *testing.T) { // 14.2: ErrArg, whatever the fields are
	k := three(t)
	h := bind(t, k, 1, api.Frame, 0)
	for _, what := range []int{math.MinInt, -14, -1, 0, 15, 16, 1 << 32, math.MaxInt} {
		fails(t, k, 1, api.ErrArg, Call{What: what}, Call{What: what, A: 1, B: 1, H: h, H2: h, S: "s"})
		fails(t, k, 2, api.ErrArg, Call{What: what, A: 1, H: h})
	}
	receives(t, k, 1)
	upcalls(t, k, 1)
}

func TestBind(t *testing.T) { // 14.2, Bind: each kind, the lowest number, binds.Bind's errors
	k := opened(t, [3]int{6, 6, 6}, [3]int{3, 2, 1}, [3]int{3, 4, 5})
	for kind := api.Frame; kind <= api.Slice; kind++ {
		bind(t, k, 1, kind, 0)
		bind(t, k, 2, kind, 1)
		list(t, k, 1, kind, 0)
		list(t, k, 2, kind, 1)
	}
	spare(t, k, 4, 4, 4)
	free(t, k, 1, k.Root(api.Frame, 0))
	bind(t, k, 2, api.Frame, 0)
	bind(t, k, 1, api.Block, 2)
	for _, kind := range far {
		fails(t, k, 1, api.ErrArg, Call{What: Bind, A: kind})
	}
	fails(t, k, 1, api.ErrQuota, Call{What: Bind, A: api.Block}, Call{What: Bind, A: api.Slice})
	h := bind(t, k, 1, api.Frame, 2)
	for range mostPaid - 4 {
		share(t, k, 1, h, 1, caps.Use)
	}
	fails(t, k, 1, api.ErrFull, Call{What: Bind, A: api.Frame}, Call{What: Share, H: h, A: 2, B: caps.Use})
	fails(t, k, 1, api.ErrQuota, Call{What: Bind, A: api.Slice})
	answers(t, k, 1, Call{What: Revoke, H: h}, Reply{N: mostPaid - 4})
	bind(t, k, 1, api.Frame, 3)
}

func TestBoundIsZero(t *testing.T) { // 14.4: whoever had it, however it became free
	frees := []func(k *Kernel, h caps.Handle) api.Errno{
		func(k *Kernel, h caps.Handle) api.Errno { return k.Do(1, Call{What: Free, H: h}).Err },
		func(k *Kernel, _ caps.Handle) api.Errno { return k.Close(1) },
	}
	for _, free := range frees {
		for env := 1; env <= api.MaxEnvs; env++ {
			k := three(t)
			h := bind(t, k, 1, api.Frame, 0)
			load(t, k, 1, h, "0123456789abcdef")
			other := share(t, k, 1, h, 2, caps.Use)
			answers(t, k, 2, Call{What: Set, H: other, A: 3, B: 255}, Reply{})
			is(t, free(k, h), api.OK)
			k.Open(1, 1, [3]int{20, 20, 20})
			page(t, k, env, bind(t, k, env, api.Frame, 0), zeros(16))

			h = bind(t, k, 1, api.Block, 0)
			write(t, k, 1, h, "01234567")
			is(t, free(k, h), api.OK)
			k.Open(1, 1, [3]int{20, 20, 20})
			reads(t, k, env, bind(t, k, env, api.Block, 0), zeros(8))
		}
	}
}

func TestBindWipesItAlone(t *testing.T) { // 14.4, 14.6: frame n and block n are two, and their neighbours stay
	k := three(t)
	var frames, blocks []caps.Handle
	for number := range 5 {
		frames = append(frames, bind(t, k, 1, api.Frame, number))
		blocks = append(blocks, bind(t, k, 1, api.Block, number))
		load(t, k, 1, frames[number], "0123456789abcdef")
		write(t, k, 1, blocks[number], "01234567")
	}
	bind(t, k, 2, api.Slice, 0)
	free(t, k, 1, frames[2])
	bind(t, k, 2, api.Frame, 2)
	free(t, k, 1, blocks[3])
	bind(t, k, 3, api.Block, 3)
	for number := range 5 {
		if number != 2 {
			page(t, k, 1, frames[number], "0123456789abcdef")
		}
		if number != 3 {
			reads(t, k, 1, blocks[number], "01234567")
		}
	}
}

func TestFree(t *testing.T) { // 14.2, Free: binds.Free's errors, or it is free
	k := three(t)
	for kind := api.Frame; kind <= api.Slice; kind++ {
		h := bind(t, k, 1, kind, 0)
		own, other := share(t, k, 1, h, 1, both), share(t, k, 1, h, 2, both)
		fails(t, k, 1, api.ErrRight, Call{What: Free, H: own})
		fails(t, k, 2, api.ErrRight, Call{What: Free, H: other})
		fails(t, k, 2, api.ErrStale, Call{What: Free, H: h})
		free(t, k, 1, h)
		fails(t, k, 1, api.ErrStale, Call{What: Free, H: h}, Call{What: Free, H: own})
		fails(t, k, 2, api.ErrStale, Call{What: Free, H: other})
		spare(t, k, 64, 64, 64)
	}
}

func TestShare(t *testing.T) { // 14.2, Share: binds.Share's errors in their order, or a handle
	k := opened(t, [3]int{8, 8, 8}, [3]int{4, 4, 4}, [3]int{4, 4, 4})
	h := bind(t, k, 1, api.Frame, 0)
	load(t, k, 1, h, "shared")
	uses := share(t, k, 1, h, 2, caps.Use)
	page(t, k, 2, uses, filled("shared", 16))
	fails(t, k, 1, api.ErrStale, Call{What: Share, H: uses, A: 9, B: 9}, Call{What: Share, A: 2, B: 1})
	for _, to := range append([]int{3}, far...) {
		fails(t, k, 1, api.ErrNone, Call{What: Share, H: h, A: to, B: 9})
	}
	for _, rights := range []int{math.MinInt, -1, 0, 4, math.MaxInt} {
		fails(t, k, 1, api.ErrArg, Call{What: Share, H: h, A: 2, B: rights})
	}
	fails(t, k, 2, api.ErrRight, Call{What: Share, H: uses, A: 1, B: caps.Use})
	grants := share(t, k, 1, h, 2, caps.Grant)
	fails(t, k, 2, api.ErrRight, Call{What: Share, H: grants, A: 1, B: caps.Use})
	for _, c := range byHandle(grants, bind(t, k, 2, api.Frame, 1)) {
		if c.What >= Get && c.What <= Load {
			fails(t, k, 2, api.ErrRight, c)
		}
	}
	share(t, k, 2, grants, 1, caps.Grant)
	full := share(t, k, 1, h, 1, both)
	share(t, k, 1, full, 2, both)
}

func TestRevoke(t *testing.T) { // 14.2, Revoke: how many; all below are gone, the capability stays
	k := three(t)
	h := bind(t, k, 1, api.Block, 0)
	second := share(t, k, 1, h, 2, both)
	third := share(t, k, 2, second, 3, both)
	fails(t, k, 1, api.ErrStale, Call{What: Revoke, H: second}, Call{What: Revoke, H: third}, Call{What: Revoke})
	answers(t, k, 3, Call{What: Revoke, H: third}, Reply{})
	answers(t, k, 1, Call{What: Revoke, H: h}, Reply{N: 2})
	fails(t, k, 2, api.ErrStale, Call{What: Read, H: second})
	fails(t, k, 3, api.ErrStale, Call{What: Read, H: third})
	reads(t, k, 1, h, zeros(8))
	answers(t, k, 1, Call{What: Revoke, H: h}, Reply{})
}

func TestExample(t *testing.T) { // the chapter's example
	k := three(t)
	h := bind(t, k, 1, api.Frame, 0)
	answers(t, k, 1, Call{What: Set, H: h, A: 3, B: 7}, Reply{})
	answers(t, k, 1, Call{What: Get, H: h, A: 3}, Reply{N: 7})
	answers(t, k, 2, Call{What: Get, H: h, A: 3}, Reply{Err: api.ErrStale})
}

func TestGetSet(t *testing.T) { // 14.2, Get, Set: every place, bytes at the edges; nothing else changes
	for at := range api.FrameSize {
		for _, b := range []int{0, 1, 127, 128, 254, 255} {
			k := three(t)
			h, neighbour := bind(t, k, 1, api.Frame, 0), bind(t, k, 1, api.Frame, 1)
			load(t, k, 1, h, "0123456789abcdef")
			answers(t, k, 1, Call{What: Set, H: h, A: at, B: b}, Reply{})
			answers(t, k, 1, Call{What: Get, H: h, A: at}, Reply{N: b})
			page(t, k, 1, h, "0123456789abcdef"[:at]+string([]byte{byte(b)})+"0123456789abcdef"[at+1:])
			page(t, k, 1, neighbour, zeros(16))
		}
	}
}

func TestGetSetWrong(t *testing.T) { // 14.2: of Set a wrong B first; then binds.Number's errors, then the place
	k := three(t)
	h, block := bind(t, k, 1, api.Frame, 0), bind(t, k, 1, api.Block, 0)
	slice, grants := bind(t, k, 1, api.Slice, 0), share(t, k, 1, h, 1, caps.Grant)
	stale := caps.Handle{Slot: h.Slot, Gen: h.Gen + 1}
	for _, b := range []int{math.MinInt, -256, -1, 256, 257, 511, 1 << 32, math.MaxInt} {
		for _, o := range []caps.Handle{h, block, slice, grants, stale} {
			fails(t, k, 1, api.ErrArg, Call{What: Set, H: o, A: 0, B: b}, Call{What: Set, H: o, A: 16, B: b})
		}
	}
	for _, at := range []int{math.MinInt, -1, 16, 17, math.MaxInt} {
		fails(t, k, 1, api.ErrStale, Call{What: Get, H: stale, A: at}, Call{What: Set, H: stale, A: at, B: 1})
		fails(t, k, 2, api.ErrStale, Call{What: Get, H: h, A: at}, Call{What: Set, H: h, A: at, B: 1})
		fails(t, k, 1, api.ErrRight, Call{What: Get, H: grants, A: at}, Call{What: Set, H: grants, A: at, B: 1})
		fails(t, k, 1, api.ErrArg, Call{What: Get, H: h, A: at}, Call{What: Set, H: h, A: at, B: 1})
	}
	for _, o := range []caps.Handle{block, slice} {
		fails(t, k, 1, api.ErrArg, Call{What: Get, H: o}, Call{What: Set, H: o, B: 1})
	}
}

func TestCopy(t *testing.T) { // 14.2, Copy: H to H2, the errors of H first
	k := three(t)
	from, to := bind(t, k, 1, api.Frame, 0), bind(t, k, 1, api.Frame, 1)
	block, grants := bind(t, k, 1, api.Block, 0), share(t, k, 1, from, 1, caps.Grant)
	stale := caps.Handle{Slot: -1}
	load(t, k, 1, from, "from")
	load(t, k, 1, to, "to")
	for _, c := range []struct {
		h    caps.Handle
		want api.Errno
	}{{stale, api.ErrStale}, {block, api.ErrArg}, {grants, api.ErrRight}} {
		for _, other := range []caps.Handle{stale, block, grants, from} {
			fails(t, k, 1, c.want, Call{What: Copy, H: c.h, H2: other})
		}
		fails(t, k, 1, c.want, Call{What: Copy, H: from, H2: c.h})
	}
	answers(t, k, 1, Call{What: Copy, H: from, H2: to}, Reply{})
	page(t, k, 1, to, filled("from", 16))
	load(t, k, 1, from, "other")
	page(t, k, 1, to, filled("from", 16))
	answers(t, k, 1, Call{What: Copy, H: from, H2: from}, Reply{})
	page(t, k, 1, from, filled("other", 16))
	lent := share(t, k, 1, from, 2, caps.Use)
	own := bind(t, k, 2, api.Frame, 2)
	answers(t, k, 2, Call{What: Copy, H: lent, H2: own}, Reply{})
	page(t, k, 2, own, filled("other", 16))
}

func TestPageLoad(t *testing.T) { // 14.2, Page, Load: all lengths; bytes behind s are 0
	k := three(t)
	h, block := bind(t, k, 1, api.Frame, 0), bind(t, k, 1, api.Block, 0)
	grants := share(t, k, 1, h, 2, caps.Grant)
	text := "\xff\x00z3456789abcdefg"
	for n := range api.FrameSize + 1 {
		load(t, k, 1, h, "0123456789abcdef")
		load(t, k, 1, h, text[:n])
		page(t, k, 1, h, filled(text[:n], 16))
	}
	long := []string{zeros(17), zeros(1000)}
	for _, s := range append(long, "") {
		fails(t, k, 1, api.ErrArg, Call{What: Load, H: block, S: s}, Call{What: Page, H: block})
		fails(t, k, 2, api.ErrRight, Call{What: Load, H: grants, S: s}, Call{What: Page, H: grants})
		fails(t, k, 2, api.ErrStale, Call{What: Load, H: h, S: s}, Call{What: Page, H: h})
	}
	for _, s := range long {
		fails(t, k, 1, api.ErrLong, Call{What: Load, H: h, S: s})
	}
}

func TestReadWrite(t *testing.T) { // 14.2, Read, Write: all lengths; bytes behind s stay
	k := three(t)
	h, frame := bind(t, k, 1, api.Block, 0), bind(t, k, 1, api.Frame, 0)
	grants := share(t, k, 1, h, 2, caps.Grant)
	text := "\xff\x00z34567"
	for n := range api.BlockSize + 1 {
		write(t, k, 1, h, "01234567")
		write(t, k, 1, h, text[:n])
		reads(t, k, 1, h, text[:n]+"01234567"[n:])
	}
	long := []string{zeros(9), zeros(1000)}
	for _, s := range append(long, "") {
		fails(t, k, 1, api.ErrArg, Call{What: Write, H: frame, S: s}, Call{What: Read, H: frame})
		fails(t, k, 2, api.ErrRight, Call{What: Write, H: grants, S: s}, Call{What: Read, H: grants})
		fails(t, k, 2, api.ErrStale, Call{What: Write, H: h, S: s}, Call{What: Read, H: h})
	}
	for _, s := range long {
		fails(t, k, 1, api.ErrLong, Call{What: Write, H: h, S: s})
	}
}

func TestSend(t *testing.T) { // 14.2, Send, Receive, Upcall: from each to each, itself too
	for from := 1; from <= api.MaxEnvs; from++ {
		for to := 1; to <= api.MaxEnvs; to++ {
			for _, word := range []int{0, 1, 255, 256, 65535} {
				k := three(t)
				keeps(t, k, func() { send(t, k, from, to, word) })
				for env := 1; env <= api.MaxEnvs; env++ {
					if env != to {
						receives(t, k, env)
						upcalls(t, k, env)
					}
				}
				upcalls(t, k, to, from)
				receives(t, k, to, from*65536+word)
			}
		}
	}
}

func TestSendWrong(t *testing.T) { // 14.2: ErrNone, then ipc.Send's errors; no message, and no call up
	k := opened(t, [3]int{8, 8, 8}, [3]int{4, 4, 4}, [3]int{4, 4, 4})
	bad := []int{math.MinInt, -65536, -1, 65536, 1 << 32, math.MaxInt}
	for _, to := range append([]int{3}, far...) {
		for _, word := range append([]int{0, 65535}, bad...) {
			fails(t, k, 1, api.ErrNone, Call{What: Send, A: to, B: word})
		}
	}
	for _, word := range bad {
		fails(t, k, 1, api.ErrArg, Call{What: Send, A: 2, B: word})
	}
	receives(t, k, 2)
	upcalls(t, k, 2)
	send(t, k, 1, 2, 1, 2)
	send(t, k, 2, 2, 3, 4)
	fails(t, k, 1, api.ErrFull, Call{What: Send, A: 2, B: 5})
	fails(t, k, 2, api.ErrFull, Call{What: Send, A: 2, B: 5})
	fails(t, k, 1, api.ErrArg, Call{What: Send, A: 2, B: -1})
	upcalls(t, k, 2, 1, 1, 2, 2)
	receives(t, k, 2, 65536+1, 65536+2, 2*65536+3, 2*65536+4)
	is(t, k.Open(3, 1, [3]int{}), api.OK)
	send(t, k, 1, 3, 9)
	receives(t, k, 3, 65536+9)
}

func TestUpcallsLost(t *testing.T) { // 14.2, 13.3: messages are not lost with the calls up that tell of them
	k := three(t)
	for i := range 6 {
		send(t, k, 1+i%3, 2, i)
		answers(t, k, 2, Call{What: Receive}, Reply{N: (1+i%3)*65536 + i})
	}
	upcalls(t, k, 2, 3, 1, 2, 3)
	receives(t, k, 2)
}

func TestTurn(t *testing.T) { // 14.3: the slices' owners
	k := opened(t, [3]int{8, 8, 5}, [3]int{0, 0, 2}, [3]int{0, 0, 2})
	turns := func(want ...int) {
		t.Helper()
		for p := -20; p < 20; p++ {
			if env := k.Turn(p); env != want[(p+20)%5] {
				t.Errorf("Turn(%d): %d, not %d", p, env, want[(p+20)%5])
			}
		}
	}
	turns(0, 0, 0, 0, 0)
	first := bind(t, k, 2, api.Slice, 0)
	bind(t, k, 1, api.Slice, 1)
	bind(t, k, 2, api.Slice, 2)
	turns(2, 1, 2, 0, 0)
	share(t, k, 2, first, 1, both)
	turns(2, 1, 2, 0, 0)
	free(t, k, 2, first)
	turns(0, 1, 2, 0, 0)
	bind(t, k, 1, api.Slice, 0)
	turns(1, 1, 2, 0, 0)
	if k.Turn(math.MinInt) != k.Turn(math.MinInt+5) || k.Turn(math.MaxInt) != k.Turn(math.MaxInt-5) {
		t.Error("turns at the ends of numbers")
	}
	is(t, k.Close(1), api.OK)
	turns(0, 0, 2, 0, 0)
	one := opened(t, [3]int{1, 1, 1}, [3]int{1, 1, 1})
	bind(t, one, 1, api.Slice, 0)
	for p := -5; p < 5; p++ {
		if one.Turn(p) != 1 {
			t.Errorf("Turn(%d): %d", p, one.Turn(p))
		}
	}
}

func TestVersion(t *testing.T) { // 14.3: as of envs
	k := opened(t, [3]int{8, 8, 8}, [3]int{4, 4, 4}, [3]int{4, 4, 4})
	h := bind(t, k, 1, api.Frame, 0)
	load(t, k, 1, h, "stays")
	runs(t, k, 1, 1)
	is(t, k.Change(1, 2), api.OK)
	runs(t, k, 1, 2)
	runs(t, k, 2, 1)
	keeps(t, k, func() {
		for _, version := range append([]int{3}, far...) {
			is(t, k.Change(1, version), api.ErrArg)
			is(t, k.Change(3, version), api.ErrNone)
		}
	})
	page(t, k, 1, h, filled("stays", 16))
	is(t, k.Change(1, 1), api.OK)
	runs(t, k, 1, 1)
}

func TestList(t *testing.T) { // 14.3, R3: as of binds; what is answered is its caller's
	k := opened(t, [3]int{5, 5, 5}, [3]int{4, 4, 4})
	for number := range 3 {
		bind(t, k, 1, api.Frame, number)
	}
	l := k.List(1, api.Frame)
	clear(l[:cap(l)])
	list(t, k, 1, api.Frame, 0, 1, 2)
	for _, n := range far {
		list(t, k, 1, n)
		list(t, k, n, api.Frame)
		if k.Root(n, 0) != (caps.Handle{}) {
			t.Errorf("Root(%d, 0): %v", n, k.Root(n, 0))
		}
	}
	for _, number := range []int{math.MinInt, -1, 3, 4, 5, 63, 64, math.MaxInt} {
		if k.Root(api.Frame, number) != (caps.Handle{}) {
			t.Errorf("Root(1, %d): %v", number, k.Root(api.Frame, number))
		}
	}
	spare(t, k, 2, 5, 5)
}

func TestNil(t *testing.T) { // Open ErrState (ErrArg first), others ErrNone; nothing
	for _, k := range []*Kernel{nil, {}} {
		for env := 1; env <= api.MaxEnvs; env++ {
			for _, quota := range [][3]int{{}, {64, 64, 64}, {math.MaxInt, 0, 0}} {
				is(t, k.Open(env, 1, quota), api.ErrState)
				is(t, k.Open(env, 2, quota), api.ErrState)
			}
			for _, quota := range [][3]int{{-1, 0, 0}, {0, -1, 0}, {0, 0, -1}} {
				is(t, k.Open(env, 1, quota), api.ErrArg)
			}
			for _, version := range append([]int{3}, far...) {
				is(t, k.Open(env, version, [3]int{}), api.ErrArg)
			}
		}
		for _, env := range far {
			is(t, k.Open(env, 1, [3]int{}), api.ErrArg)
		}
		for _, env := range append([]int{1, 2, 3}, far...) {
			notOpen(t, k, env)
		}
		nothing := all{}
		for env := range nothing.open {
			nothing.open[env] = api.ErrNone
		}
		if tell(k) != nothing {
			t.Error("it has something")
		}
	}
}

// scene is a kernel with something of everything, and handles of environment 1: a frame, another one, a block, a slice, and a frame that is lent to it.
func scene(t *testing.T) (*Kernel, [5]caps.Handle) {
	t.Helper()
	k := three(t)
	handles := [5]caps.Handle{bind(t, k, 1, api.Frame, 0), bind(t, k, 1, api.Frame, 1), bind(t, k, 1, api.Block, 0), bind(t, k, 1, api.Slice, 0)}
	lent := bind(t, k, 2, api.Frame, 2)
	handles[4] = share(t, k, 2, lent, 1, both)
	load(t, k, 1, handles[0], "first")
	load(t, k, 1, handles[1], "second")
	load(t, k, 2, lent, "lent")
	write(t, k, 1, handles[2], "disk")
	send(t, k, 2, 1, 500)
	send(t, k, 3, 1, 501)
	return k, handles
}

// drain wants that two kernels have the same messages and calls up.
func drain(t *testing.T, k, o *Kernel) {
	t.Helper()
	for env := 1; env <= api.MaxEnvs; env++ {
		for _, what := range []int{Receive, Upcall} {
			for range 5 {
				answers(t, o, env, Call{What: what}, k.Do(env, Call{What: what}))
			}
		}
	}
}

func TestFieldsThatCountForNothing(t *testing.T) { // words: those that a What does not name
	_, h := scene(t)
	for _, c := range []struct{ plain, filled Call }{
		{Call{What: Bind, A: 2}, Call{What: Bind, A: 2, B: 999, H: h[0], H2: h[1], S: zeros(99)}},
		{Call{What: Free, H: h[0]}, Call{What: Free, A: -9, B: 999, H: h[0], H2: h[1], S: zeros(99)}},
		{Call{What: Share, H: h[0], A: 2, B: 1}, Call{What: Share, H: h[0], A: 2, B: 1, H2: h[1], S: zeros(99)}},
		{Call{What: Revoke, H: h[0]}, Call{What: Revoke, A: -9, B: 999, H: h[0], H2: h[1], S: zeros(99)}},
		{Call{What: Get, H: h[0], A: 1}, Call{What: Get, H: h[0], A: 1, B: 999, H2: h[1], S: zeros(99)}},
		{Call{What: Set, H: h[0], A: 1, B: 3}, Call{What: Set, H: h[0], A: 1, B: 3, H2: h[1], S: zeros(99)}},
		{Call{What: Copy, H: h[0], H2: h[1]}, Call{What: Copy, H: h[0], H2: h[1], A: -9, B: 999, S: zeros(99)}},
		{Call{What: Page, H: h[4]}, Call{What: Page, H: h[4], A: -9, B: 999, H2: h[1], S: zeros(99)}},
		{Call{What: Load, H: h[0], S: "s"}, Call{What: Load, H: h[0], S: "s", A: -9, B: 999, H2: h[1]}},
		{Call{What: Read, H: h[2]}, Call{What: Read, H: h[2], A: -9, B: 999, H2: h[1], S: zeros(99)}},
		{Call{What: Write, H: h[2], S: "s"}, Call{What: Write, H: h[2], S: "s", A: -9, B: 999, H2: h[1]}},
		{Call{What: Send, A: 2, B: 9}, Call{What: Send, A: 2, B: 9, H: h[0], H2: h[1], S: zeros(99)}},
		{Call{What: Receive}, Call{What: Receive, A: 2, B: 999, H: h[0], H2: h[1], S: zeros(99)}},
		{Call{What: Upcall}, Call{What: Upcall, A: 2, B: 999, H: h[0], H2: h[1], S: zeros(99)}},
	} {
		k, _ := scene(t)
		o, _ := scene(t)
		r := k.Do(1, c.plain)
		is(t, r.Err, api.OK)
		answers(t, o, 1, c.filled, r)
		if tell(k) != tell(o) {
			t.Errorf("%v and %v do not do the same", c.plain, c.filled)
		}
		drain(t, k, o)
	}
}

func TestForeignHandles(t *testing.T) { // 14.5: a handle that is another's, was forged, or is gone does nothing
	k, h := scene(t)
	o, _ := scene(t)
	own := map[int]caps.Handle{1: h[1], 2: k.Root(api.Frame, 2), 3: bind(t, k, 3, api.Frame, 3)}
	bind(t, o, 3, api.Frame, 3)
	for env, mine := range own {
		foreign := []caps.Handle{{}, {Slot: -1, Gen: 1}, {Slot: 128, Gen: 1}, {Slot: math.MaxInt, Gen: math.MaxInt}, {Slot: mine.Slot, Gen: mine.Gen + 1}, {Slot: mine.Slot, Gen: mine.Gen - 1}}
		if env != 1 {
			foreign = append(foreign, h[:]...)
		}
		for other, theirs := range own {
			if other != env {
				foreign = append(foreign, theirs)
			}
		}
		for _, f := range foreign {
			fails(t, k, env, api.ErrStale, byHandle(f, mine)...)
		}
	}
	if tell(k) != tell(o) {
		t.Error("something was done")
	}
	drain(t, k, o)
}

// numbers are some that hang on a seed alone.
func numbers(seed uint32) func(n int) int {
	return func(n int) int {
		seed = seed*1664525 + 1013904223
		return int((seed >> 16) % uint32(n))
	}
}

// bytesOf are n bytes that hang on numbers.
func bytesOf(n int, next func(n int) int) string {
	b := make([]byte, n)
	for i := range b {
		b[i] = byte(next(256))
	}
	return string(b)
}

// ownStep is one thing that environment 1 does by itself, with what it has, which is in held; it tells what it is answered, but for numbers and handles.
func ownStep(k *Kernel, held *[]caps.Handle, next func(n int) int) Reply {
	what, a, b, s := 1+next(11), next(18), next(260), bytesOf(next(20), next)
	if what == Free && next(3) > 0 || len(*held) == 0 {
		what = Bind
	}
	if what == Bind {
		r := k.Do(1, Call{What: Bind, A: a % 4})
		if r.Err == api.OK {
			*held = append(*held, r.H)
		}
		return Reply{Err: r.Err}
	}
	at := next(len(*held))
	c := Call{What: what, A: a, B: b, H: (*held)[at], H2: (*held)[next(len(*held))], S: s}
	if what == Share {
		c.A, c.B = 1, both
	}
	r := k.Do(1, c)
	if what == Free && r.Err == api.OK {
		*held = slices.Delete(*held, at, at+1)
	}
	return Reply{Err: r.Err, N: r.N, S: r.S}
}

// othersStep is one thing that environments 2 and 3 do, with handles of all too.
func othersStep(k *Kernel, next func(n int) int) {
	env := 2 + next(2)
	switch next(30) {
	case 0:
		k.Close(env)
	case 1, 2, 3:
		k.Open(env, 1+next(2), [3]int{next(40), next(40), next(40)})
	default:
		owner, kind := 1+next(3), 1+next(3)
		c := Call{What: 1 + next(12), A: next(17), B: next(256), S: bytesOf(next(17), next)}
		if c.What == Share {
			c.A, c.B = 2+next(2), 1+next(3)
		}
		if c.What == Bind {
			c.A = kind
		}
		if l := k.List(owner, kind); len(l) > 0 {
			c.H, c.H2 = k.Root(kind, l[next(len(l))]), k.Root(kind, l[next(len(l))])
		}
		k.Do(env, c)
	}
}

func TestApart(t *testing.T) { // 14.5, 14.6: what one that shares nothing is answered is the same, whatever others do
	for seed := range uint32(20) {
		quota := [3]int{12, 12, 3}
		alone, amidst := opened(t, [3]int{64, 64, 64}, quota), opened(t, [3]int{64, 64, 64}, quota)
		var aloneHeld, amidstHeld []caps.Handle
		mine, same, others := numbers(seed), numbers(seed), numbers(seed+100)
		told := map[api.Errno]int{}
		for i := range 2000 {
			for range others(6) {
				othersStep(amidst, others)
			}
			r, o := ownStep(alone, &aloneHeld, mine), ownStep(amidst, &amidstHeld, same)
			if r != o {
				t.Fatalf("step %d: %v alone, %v amidst others", i, r, o)
			}
			told[r.Err]++
		}
		if told[api.OK] < 700 || told[api.ErrQuota] < 20 || told[api.ErrFull] < 5 || told[api.ErrArg] < 100 || told[api.ErrLong] < 20 {
			t.Errorf("too little was asked: %v", told)
		}
	}
}

func TestSharedChange(t *testing.T) { // 14.6: those with whom it is shared change it, as long as it is
	k := three(t)
	h, block := bind(t, k, 1, api.Frame, 0), bind(t, k, 1, api.Block, 0)
	second, disk := share(t, k, 1, h, 2, both), share(t, k, 1, block, 2, caps.Use)
	third := share(t, k, 2, second, 3, caps.Use)
	answers(t, k, 3, Call{What: Set, H: third, A: 0, B: 'x'}, Reply{})
	page(t, k, 1, h, filled("x", 16))
	load(t, k, 2, second, "all")
	page(t, k, 1, h, filled("all", 16))
	write(t, k, 2, disk, "disk")
	reads(t, k, 1, block, filled("disk", 8))
	answers(t, k, 1, Call{What: Revoke, H: h}, Reply{N: 2})
	fails(t, k, 2, api.ErrStale, Call{What: Load, H: second, S: "no"})
	fails(t, k, 3, api.ErrStale, Call{What: Set, H: third, B: 1})
	write(t, k, 2, disk, "still")
	reads(t, k, 1, block, filled("still", 8))
}
