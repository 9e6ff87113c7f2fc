package pages

import (
	"math"
	"slices"
	"strings"
	"testing"

	"imago/api"
	"imago/caps"
	"imago/kern"
	"imago/tlb"
)

// far are numbers that are no process and no page.
var far = []int{math.MinInt, -1, 17, 1 << 32, math.MaxInt}

// noProcs are numbers that are no process.
var noProcs = append([]int{0, 7, 16}, far...)

// noPages are numbers that are no page.
var noPages = append([]int{16}, far...)

// noAddresses are some that are none, whatever follows.
var noAddresses = []int{math.MinInt, math.MinInt + 1, -256, -16, -1, 256, 257, 512, 1 << 32, math.MaxInt - 1, math.MaxInt}

func is(t *testing.T, e, want api.Errno) {
	t.Helper()
	if e != want {
		t.Errorf("%v, not %v", e, want)
	}
}

// machine is a kernel of so many frames, in which environments 1, 2 .. are open and may have so many of them.
func machine(t *testing.T, frames int, quotas ...int) *kern.Kernel {
	t.Helper()
	k, e := kern.New(frames, 64, 1)
	is(t, e, api.OK)
	for i, n := range quotas {
		if e := k.Open(i+1, 1, [3]int{n, 64 / len(quotas), 0}); e != api.OK {
			t.Fatalf("Open(%d, 1, %d): %v", i+1, n, e)
		}
	}
	return k
}

// bound binds a frame that no page has yet, with these bytes.
func bound(t *testing.T, k *kern.Kernel, env int, s string) int {
	t.Helper()
	r := k.Do(env, kern.Call{What: kern.Bind, A: api.Frame})
	is(t, r.Err, api.OK)
	is(t, k.Do(env, kern.Call{What: kern.Load, H: r.H, S: s}).Err, api.OK)
	return r.N
}

// freed frees a frame.
func freed(t *testing.T, k *kern.Kernel, env, frame int) {
	t.Helper()
	is(t, k.Do(env, kern.Call{What: kern.Free, H: k.Root(api.Frame, frame)}).Err, api.OK)
}

// stands is what stands in a frame.
func stands(k *kern.Kernel, env, frame int) string {
	return k.Do(env, kern.Call{What: kern.Page, H: k.Root(api.Frame, frame)}).S
}

// text is so many bytes: neighbours, and the same places of two pages, are unlike; none is 0.
func text(n int) string {
	b := make([]byte, n)
	for i := range b {
		b[i] = byte(1 + i%251)
	}
	return string(b)
}

func zeros(n int) string { return strings.Repeat("\x00", n) }

// laid is memory, with s from an address on.
func laid(memory string, addr int, s string) string {
	return memory[:addr] + s + memory[addr+len(s):]
}

func writes(t *testing.T, p *Pages, pid, addr int, s string) {
	t.Helper()
	if e := p.Write(pid, addr, s); e != api.OK {
		t.Fatalf("Write(%d, %d, %q): %v", pid, addr, s, e)
	}
}

func reads(t *testing.T, p *Pages, pid, addr, n int, want string) {
	t.Helper()
	if s, e := p.Read(pid, addr, n); s != want || e != api.OK {
		t.Fatalf("Read(%d, %d, %d): %q, %v, not %q", pid, addr, n, s, e, want)
	}
}

func forks(t *testing.T, p *Pages, parent int, children ...int) {
	t.Helper()
	for _, child := range children {
		if e := p.Fork(parent, child); e != api.OK {
			t.Fatalf("Fork(%d, %d): %v", parent, child, e)
		}
	}
}

func spare(t *testing.T, k *kern.Kernel, want int) {
	t.Helper()
	if n := k.Spare()[api.Frame-1]; n != want {
		t.Errorf("Spare: %d frames, not %d", n, want)
	}
}

func lists(t *testing.T, p *Pages, want ...Entry) {
	t.Helper()
	if l := p.List(); !slices.Equal(l, want) {
		t.Errorf("List: %v, not %v", l, want)
	}
}

// loaded are pages of a right list.
func loaded(t *testing.T, k *kern.Kernel, env int, l []Entry) *Pages {
	t.Helper()
	p, e := Load(k, env, l)
	if p == nil || e != api.OK {
		t.Fatalf("Load(%v): %v, %v", l, p, e)
	}
	return p
}

// has wants that processes 1, 2 .. read as that from address 0 on, and as bytes 0 behind it; others as bytes 0.
func has(t *testing.T, p *Pages, memories ...string) {
	t.Helper()
	for pid := 1; pid <= 6; pid++ {
		want := ""
		if pid <= len(memories) {
			want = memories[pid-1]
		}
		reads(t, p, pid, 0, 256, want+zeros(256-len(want)))
	}
}

// tight wants that an environment has just the frames of its pages, and that the buffer says nothing else than the table.
func tight(t *testing.T, k *kern.Kernel, env int, p *Pages, frames int) {
	t.Helper()
	users := map[int]int{}
	for _, e := range p.List() {
		users[e.Frame]++
	}
	own := k.List(env, api.Frame)
	for _, frame := range own {
		if users[frame] == 0 {
			t.Errorf("frame %d is no page's", frame)
		}
	}
	if len(own) != frames || len(users) != frames || p.Frames() != frames {
		t.Errorf("%d frames, of pages %v; Frames: %d; not %d", len(own), users, p.Frames(), frames)
	}
	for _, key := range p.lately.Keys() {
		frame, there := p.table[place{key.Proc, key.Page}]
		if e, _ := p.lately.Get(key); !there || key.Env != env || e != (tlb.Entry{Frame: frame, Write: users[frame] == 1}) {
			t.Errorf("buffer: %v, %v", key, e)
		}
	}
}

func TestNew(t *testing.T) { // 23.1: no page is there, and nothing is bound; pages of two calls are apart
	k := machine(t, 8, 8)
	p, q := New(k, 1), New(k, 1)
	if p == nil || q == nil {
		t.Fatal("New: nothing")
	}
	has(t, p)
	lists(t, p)
	tight(t, k, 1, p, 0)
	writes(t, p, 1, 0, "a")
	has(t, q)
	lists(t, q)
	if q.Frames() != 0 {
		t.Errorf("Frames: %d", q.Frames())
	}
	has(t, p, "a")
	tight(t, k, 1, p, 1)
}

func TestExample(t *testing.T) { // the chapter's example
	k := machine(t, 8, 8)
	p := New(k, 1)
	writes(t, p, 1, 15, "ab")
	lists(t, p, Entry{1, 0, 0}, Entry{1, 1, 1})
	forks(t, p, 1, 2)
	tight(t, k, 1, p, 2)
	writes(t, p, 2, 0, "x")
	tight(t, k, 1, p, 3)
	has(t, p, zeros(15)+"ab", "x"+zeros(14)+"ab")
}

func TestRead(t *testing.T) { // 23.1: all places, all lengths; a page that is not there reads as bytes 0, and does not come
	k := machine(t, 8, 8)
	p := New(k, 1)
	writes(t, p, 3, 16, text(48))
	writes(t, p, 3, 96, text(16))
	writes(t, p, 3, 240, text(16))
	want := laid(laid(laid(zeros(256), 16, text(48)), 96, text(16)), 240, text(16))
	for addr := range 256 {
		for n := range 257 - addr {
			reads(t, p, 3, addr, n, want[addr:addr+n])
		}
		reads(t, p, 4, addr, 256-addr, zeros(256-addr))
	}
	tight(t, k, 1, p, 5)
}

func TestWrite(t *testing.T) { // 23.1, 23.4, 23.5: all places, many lengths: a frame for each page in which a byte lies, and no other
	for addr := range 256 {
		for _, n := range []int{1, 2, 15, 16, 17, 31, 32, 33, 48, 255, 256} {
			if n > 256-addr {
				continue
			}
			k := machine(t, 20, 20)
			p := New(k, 1)
			writes(t, p, 2, 20, "here")
			before := laid(zeros(256), 20, "here")
			s := text(n)
			writes(t, p, 2, addr, s)
			has(t, p, "", laid(before, addr, s))
			pages := []int{1}
			for i := range n {
				pages = append(pages, (addr+i)/16)
			}
			slices.Sort(pages)
			pages = slices.Compact(pages)
			tight(t, k, 1, p, len(pages))
			for i, e := range p.List() {
				if e.PID != 2 || e.Page != pages[i] {
					t.Fatalf("Write(2, %d, %d bytes): %v", addr, n, p.List())
				}
			}
			for _, e := range p.List() {
				if stands(k, 1, e.Frame) != laid(before, addr, s)[e.Page*16:e.Page*16+16] {
					t.Fatalf("Write(2, %d, %d bytes): frame %d", addr, n, e.Frame)
				}
			}
			if t.Failed() {
				return
			}
		}
	}
}

func TestWriteAnew(t *testing.T) { // 23.1: a page that has a frame of its own keeps it
	k := machine(t, 20, 16)
	p := New(k, 1)
	writes(t, p, 1, 0, text(256))
	l := p.List()
	want := text(256)
	for addr := range 256 {
		for _, n := range []int{1, 3, 16, 18, 40} {
			n = min(n, 256-addr)
			s := strings.Repeat(string([]byte{byte(255 - addr)}), n)
			writes(t, p, 1, addr, s)
			want = laid(want, addr, s)
			has(t, p, want)
		}
	}
	lists(t, p, l...)
	tight(t, k, 1, p, 16)
	is(t, p.Write(2, 0, "a"), api.ErrFull)
}

func TestWriteNothing(t *testing.T) { // 23.1: an empty s changes nothing
	k := machine(t, 8, 8)
	p := New(k, 1)
	nothing := func(want ...Entry) {
		t.Helper()
		for pid := 1; pid <= 6; pid++ {
			for addr := range 256 {
				writes(t, p, pid, addr, "")
				reads(t, p, pid, addr, 0, "")
			}
		}
		lists(t, p, want...)
	}
	nothing()
	writes(t, p, 1, 18, "a")
	forks(t, p, 1, 2)
	nothing(Entry{1, 1, 0}, Entry{2, 1, 0})
	has(t, p, zeros(18)+"a", zeros(18)+"a")
	tight(t, k, 1, p, 1)
}

func TestBytes(t *testing.T) { // R5: bytes, whichever
	k := machine(t, 8, 8)
	p := New(k, 1)
	for b := range 256 {
		s := string([]byte{byte(b), 0, 255, byte(b), 10})
		writes(t, p, 1, 13, s)
		reads(t, p, 1, 13, 5, s)
		has(t, p, zeros(13)+s)
	}
}

// refusesArg wants that wrong numbers are told, by calls whatever else is wrong.
func refusesArg(t *testing.T, p *Pages) {
	t.Helper()
	for _, pid := range noProcs {
		for _, addr := range append([]int{0, 15, 255}, noAddresses...) {
			refusesRange(t, p, pid, addr, 0, 1, 256, -1)
		}
		for _, other := range append([]int{1, 2, 6}, noProcs...) {
			is(t, p.Fork(pid, other), api.ErrArg)
			is(t, p.Fork(other, pid), api.ErrArg)
		}
		is(t, p.Drop(pid), api.ErrArg)
		for _, page := range append([]int{0, 15}, noPages...) {
			is(t, p.Unmap(pid, page), api.ErrArg)
		}
	}
	for pid := 1; pid <= 6; pid++ {
		for _, addr := range noAddresses {
			refusesRange(t, p, pid, addr, 0, 1, 2, 16, 256, 257, math.MaxInt, math.MinInt, -1, -addr)
		}
		for _, page := range noPages {
			is(t, p.Unmap(pid, page), api.ErrArg)
		}
		for addr := range 256 {
			refusesRange(t, p, pid, addr, 257-addr, 258-addr, 257, 512, -1, -16, -addr-1, math.MinInt, math.MaxInt, math.MaxInt-addr, math.MaxInt-addr+1)
		}
		is(t, p.Fork(pid, pid), api.ErrArg)
	}
}

// refusesRange wants ErrArg of reads and writes of so many bytes.
func refusesRange(t *testing.T, p *Pages, pid, addr int, lengths ...int) {
	t.Helper()
	for _, n := range lengths {
		if s, e := p.Read(pid, addr, n); s != "" || e != api.ErrArg {
			t.Errorf("Read(%d, %d, %d): %q, %v", pid, addr, n, s, e)
		}
		if n >= 0 && n <= 1024 {
			is(t, p.Write(pid, addr, zeros(n)), api.ErrArg)
		}
	}
}

func TestWrongArguments(t *testing.T) { // 23.1, 23.2, R1, R4: ErrArg ahead of ErrFull and ErrState; nothing changes
	k := machine(t, 8, 3)
	p := New(k, 1)
	refusesArg(t, p)
	tight(t, k, 1, p, 0)
	writes(t, p, 1, 10, text(10))
	writes(t, p, 2, 255, "z")
	refusesArg(t, p)
	is(t, p.Write(1, 0, strings.Repeat("a", 1<<24)), api.ErrArg)
	has(t, p, zeros(10)+text(10), zeros(255)+"z")
	tight(t, k, 1, p, 3)
}

func TestNoFrame(t *testing.T) { // 23.1, R4: ErrFull, if a frame cannot be got: those that were got are given back, and nothing changes
	for quota := range 8 {
		for have := range quota + 1 {
			k := machine(t, 8, quota)
			p := New(k, 1)
			if have > 0 {
				writes(t, p, 1, 0, text(16*have))
			}
			l := p.List()
			for n := 1; n <= 128; n++ {
				if (n+15)/16 > quota-have {
					is(t, p.Write(2, 0, strings.Repeat("x", n)), api.ErrFull)
				}
				if (n+15)/16 > quota {
					is(t, p.Write(1, 0, strings.Repeat("x", n)), api.ErrFull)
				}
				lists(t, p, l...)
			}
			has(t, p, text(16*have))
			tight(t, k, 1, p, have)
			if left := quota - have; left > 0 {
				writes(t, p, 2, 40, text(16 * left)[:16*left-8])
				tight(t, k, 1, p, quota)
			}
		}
	}
}

func TestNoFrameOfShared(t *testing.T) { // 23.1, R4: of pages that are shared likewise
	for quota := 4; quota <= 9; quota++ {
		k := machine(t, 16, quota)
		p := New(k, 1)
		writes(t, p, 1, 0, text(64))
		forks(t, p, 1, 2)
		l := p.List()
		for pages := 1; pages <= 6; pages++ {
			if pages <= quota-4 {
				continue
			}
			for _, pid := range []int{1, 2} {
				is(t, p.Write(pid, 0, strings.Repeat("y", 16*pages)), api.ErrFull)
				lists(t, p, l...)
				has(t, p, text(64), text(64))
				tight(t, k, 1, p, 4)
			}
		}
		left := min(quota-4, 4)
		writes(t, p, 2, 0, strings.Repeat("y", 16*left))
		has(t, p, text(64), laid(text(64), 0, strings.Repeat("y", 16*left)))
		tight(t, k, 1, p, 4+left)
	}
}

func TestOneOfManyLacks(t *testing.T) { // 23.1: only pages that are not there, or share, need a frame
	k := machine(t, 16, 6)
	p := New(k, 1)
	writes(t, p, 1, 16, text(32))
	forks(t, p, 1, 2)
	writes(t, p, 1, 20, "!")
	is(t, p.Unmap(2, 1), api.OK)
	tight(t, k, 1, p, 2)
	lists(t, p, Entry{1, 1, 2}, Entry{1, 2, 1}, Entry{2, 2, 1})
	writes(t, p, 1, 0, strings.Repeat("w", 64))
	has(t, p, strings.Repeat("w", 64), zeros(32)+text(32)[16:])
	lists(t, p, Entry{1, 0, 0}, Entry{1, 1, 2}, Entry{1, 2, 3}, Entry{1, 3, 4}, Entry{2, 2, 1})
	tight(t, k, 1, p, 5)
}

func TestNoCapability(t *testing.T) { // 23.1: a frame cannot be got either, if the environment pays for too many capabilities
	k := machine(t, 8, 8)
	for range 39 {
		is(t, k.Do(1, kern.Call{What: kern.Bind, A: api.Block}).Err, api.OK)
	}
	p := New(k, 1)
	writes(t, p, 1, 0, "a")
	is(t, p.Write(2, 0, text(33)), api.ErrFull)
	has(t, p, "a")
	tight(t, k, 1, p, 1)
	writes(t, p, 2, 0, text(32))
	is(t, p.Write(2, 32, "b"), api.ErrFull)
	has(t, p, "a", text(32))
	is(t, p.Drop(1), api.OK)
	writes(t, p, 2, 32, "b")
	has(t, p, "", text(32)+"b")
	tight(t, k, 1, p, 3)
}

func TestFork(t *testing.T) { // 23.2, 23.4: each page is shared; both read the same, until one writes
	for parent := 1; parent <= 6; parent++ {
		for child := 1; child <= 6; child++ {
			if parent == child {
				continue
			}
			k := machine(t, 16, 8)
			p := New(k, 1)
			writes(t, p, parent, 30, text(20))
			writes(t, p, parent, 255, "z")
			before := laid(laid(zeros(256), 30, text(20)), 255, "z")
			forks(t, p, parent, child)
			tight(t, k, 1, p, 4)
			want := make([]string, 6)
			want[parent-1], want[child-1] = before, before
			has(t, p, want...)
			writes(t, p, child, 31, "child")
			want[child-1] = laid(before, 31, "child")
			has(t, p, want...)
			tight(t, k, 1, p, 6)
			writes(t, p, parent, 31, "par")
			want[parent-1] = laid(before, 31, "par")
			has(t, p, want...)
			tight(t, k, 1, p, 6)
			writes(t, p, parent, 255, "Z")
			want[parent-1] = laid(want[parent-1], 255, "Z")
			has(t, p, want...)
			tight(t, k, 1, p, 7)
		}
	}
}

func TestForkWrong(t *testing.T) { // 23.2, R4: ErrState, if a page of child is there
	k := machine(t, 8, 8)
	p := New(k, 1)
	for page := range 16 {
		writes(t, p, 2, page*16+page, "b")
		l := p.List()
		is(t, p.Fork(1, 2), api.ErrState)
		is(t, p.Fork(6, 2), api.ErrState)
		lists(t, p, l...)
		tight(t, k, 1, p, 1)
		is(t, p.Unmap(2, page), api.OK)
		forks(t, p, 1, 2)
		tight(t, k, 1, p, 0)
	}
	writes(t, p, 1, 0, "a")
	forks(t, p, 1, 2)
	is(t, p.Fork(1, 2), api.ErrState)
	is(t, p.Fork(2, 1), api.ErrState)
	is(t, p.Drop(1), api.OK)
	forks(t, p, 2, 1)
	has(t, p, "a", "a")
	tight(t, k, 1, p, 1)
}

func TestForkOfNone(t *testing.T) { // 23.2: of a process without pages nothing is shared
	k := machine(t, 8, 8)
	p := New(k, 1)
	forks(t, p, 1, 2, 2, 3)
	lists(t, p)
	writes(t, p, 1, 0, "a")
	has(t, p, "a")
	forks(t, p, 2, 3)
	has(t, p, "a")
	tight(t, k, 1, p, 1)
}

func TestForkOfAll(t *testing.T) { // 23.2, 23.5: six processes share 16 pages, and part page by page
	k := machine(t, 64, 17)
	p := New(k, 1)
	writes(t, p, 1, 0, text(256))
	forks(t, p, 1, 2, 3)
	forks(t, p, 3, 4)
	forks(t, p, 4, 5, 6)
	all := slices.Repeat([]string{text(256)}, 6)
	has(t, p, all...)
	tight(t, k, 1, p, 16)
	if len(p.List()) != 96 {
		t.Errorf("List: %d", len(p.List()))
	}
	writes(t, p, 4, 100, "four")
	all[3] = laid(all[3], 100, "four")
	has(t, p, all...)
	tight(t, k, 1, p, 17)
	is(t, p.Write(3, 0, "x"), api.ErrFull)
	is(t, p.Write(3, 90, text(16)), api.ErrFull)
	has(t, p, all...)
	writes(t, p, 4, 97, "4")
	all[3] = laid(all[3], 97, "4")
	for pid := 1; pid <= 6; pid++ {
		has(t, p, all...)
		is(t, p.Drop(pid), api.OK)
		all[pid-1] = ""
		tight(t, k, 1, p, []int{17, 17, 17, 16, 16, 0}[pid-1])
	}
	spare(t, k, 64)
}

func TestLastOfSharers(t *testing.T) { // 23.5: a page that shares its frame with none any more is written where it stands
	ways := map[string]func(p *Pages){
		"Unmap": func(p *Pages) { p.Unmap(2, 1) },
		"Drop":  func(p *Pages) { p.Drop(2) },
		"Write": func(p *Pages) { p.Write(2, 16, "x"); p.Drop(2) },
	}
	for name, leaves := range ways {
		for _, asked := range []bool{false, true} {
			k := machine(t, 8, 2)
			p := New(k, 1)
			writes(t, p, 1, 20, "a")
			forks(t, p, 1, 2)
			if asked { // so that the buffer knows both
				has(t, p, zeros(20)+"a", zeros(20)+"a")
			}
			leaves(p)
			lists(t, p, Entry{1, 1, 0})
			writes(t, p, 1, 20, "b")
			lists(t, p, Entry{1, 1, 0})
			has(t, p, zeros(20)+"b")
			tight(t, k, 1, p, 1)
			if t.Failed() {
				t.Fatal(name)
			}
		}
	}
}

func TestWriterBecomesSharer(t *testing.T) { // 23.4: a page that was written lately shares its frame behind a Fork
	k := machine(t, 8, 4)
	p := New(k, 1)
	for child := 2; child <= 4; child++ {
		writes(t, p, 1, 0, string([]byte{byte(child)}))
		forks(t, p, 1, child)
		tight(t, k, 1, p, child-1)
	}
	writes(t, p, 1, 0, "!")
	has(t, p, "!", "\x02", "\x03", "\x04")
	is(t, p.Drop(1), api.OK)
	is(t, p.Drop(2), api.OK)
	writes(t, p, 3, 0, "three")
	has(t, p, "", "", "three", "\x04")
	tight(t, k, 1, p, 2)
}

func TestUnmap(t *testing.T) { // 23.2: that page alone is not there; its frame is given back, if it is no other's
	for page := range 16 {
		k := machine(t, 40, 33)
		p := New(k, 1)
		writes(t, p, 1, 0, text(256))
		writes(t, p, 3, 0, strings.Repeat("t", 256))
		forks(t, p, 1, 2)
		is(t, p.Unmap(1, page), api.OK)
		gone := laid(text(256), page*16, zeros(16))
		has(t, p, gone, text(256), strings.Repeat("t", 256))
		tight(t, k, 1, p, 32)
		is(t, p.Unmap(1, page), api.OK)
		tight(t, k, 1, p, 32)
		is(t, p.Unmap(2, page), api.OK)
		has(t, p, gone, gone, strings.Repeat("t", 256))
		tight(t, k, 1, p, 31)
		is(t, p.Unmap(6, page), api.OK)
		writes(t, p, 2, page*16+15, "n")
		has(t, p, gone, laid(gone, page*16+15, "n"), strings.Repeat("t", 256))
		tight(t, k, 1, p, 32)
	}
}

func TestDrop(t *testing.T) { // 23.2: none of its pages is there; those of others stay
	k := machine(t, 20, 20)
	p := New(k, 1)
	for pid := 1; pid <= 6; pid++ {
		is(t, p.Drop(pid), api.OK)
	}
	lists(t, p)
	writes(t, p, 1, 8, text(40))
	forks(t, p, 1, 2, 6)
	writes(t, p, 2, 0, "two")
	writes(t, p, 2, 250, "two")
	one := zeros(8) + text(40)
	two := laid(laid(laid(zeros(256), 8, text(40)), 0, "two"), 250, "two")
	is(t, p.Drop(2), api.OK)
	has(t, p, one, "", "", "", "", one)
	tight(t, k, 1, p, 3)
	forks(t, p, 1, 2)
	has(t, p, one, one, "", "", "", one)
	writes(t, p, 2, 0, two)
	is(t, p.Drop(1), api.OK)
	is(t, p.Drop(6), api.OK)
	has(t, p, "", two)
	tight(t, k, 1, p, 16)
	is(t, p.Drop(2), api.OK)
	has(t, p)
	lists(t, p)
	spare(t, k, 20)
}

func TestNewFrameIsClean(t *testing.T) { // words: a page that comes reads as bytes 0, but for what is written; whatever stood in its frame
	k := machine(t, 4, 4)
	for range 4 {
		bound(t, k, 1, strings.Repeat("d", 16))
	}
	for frame := range 4 {
		freed(t, k, 1, frame)
	}
	p := New(k, 1)
	writes(t, p, 1, 20, "a")
	writes(t, p, 2, 47, "bc")
	has(t, p, zeros(20)+"a", zeros(47)+"bc")
	is(t, p.Unmap(1, 1), api.OK)
	has(t, p, "", zeros(47)+"bc")
	writes(t, p, 1, 31, "d")
	has(t, p, zeros(31)+"d", zeros(47)+"bc")
}

func TestList(t *testing.T) { // 23.3: by processes, then by pages, each with its frame
	k := machine(t, 16, 16)
	p := New(k, 1)
	for _, at := range []Entry{{6, 15, 0}, {2, 3, 1}, {6, 0, 2}, {1, 9, 3}, {2, 1, 4}, {1, 15, 5}, {4, 7, 6}, {1, 2, 7}} {
		writes(t, p, at.PID, at.Page*16+at.Page, "a")
	}
	lists(t, p, Entry{1, 2, 7}, Entry{1, 9, 3}, Entry{1, 15, 5}, Entry{2, 1, 4}, Entry{2, 3, 1}, Entry{4, 7, 6}, Entry{6, 0, 2}, Entry{6, 15, 0})
	forks(t, p, 2, 5)
	is(t, p.Drop(1), api.OK)
	writes(t, p, 5, 50, "b")
	lists(t, p, Entry{2, 1, 4}, Entry{2, 3, 1}, Entry{4, 7, 6}, Entry{5, 1, 4}, Entry{5, 3, 3}, Entry{6, 0, 2}, Entry{6, 15, 0})
	tight(t, k, 1, p, 6)
	writes(t, p, 3, 8, text(40))
	lists(t, p, Entry{2, 1, 4}, Entry{2, 3, 1}, Entry{3, 0, 5}, Entry{3, 1, 7}, Entry{3, 2, 8}, Entry{4, 7, 6}, Entry{5, 1, 4}, Entry{5, 3, 3}, Entry{6, 0, 2}, Entry{6, 15, 0})
}

func TestLoad(t *testing.T) { // 23.3: these pages, with the bytes that stand in the frames; nothing is bound or freed
	k := machine(t, 12, 8)
	all := text(96)
	for i := range 6 {
		bound(t, k, 1, all[i*16:i*16+16])
	}
	at := func(frames ...int) string {
		s := ""
		for _, frame := range frames {
			if frame < 0 {
				s += zeros(16)
			} else {
				s += all[frame*16 : frame*16+16]
			}
		}
		return s
	}
	for _, c := range []struct {
		l      []Entry
		want   []string
		frames int
	}{
		{nil, nil, 0},
		{[]Entry{}, nil, 0},
		{[]Entry{{1, 0, 5}}, []string{at(5)}, 1},
		{[]Entry{{6, 15, 0}}, []string{"", "", "", "", "", zeros(240) + at(0)}, 1},
		{[]Entry{{2, 1, 4}, {2, 0, 2}, {1, 3, 0}}, []string{at(-1, -1, -1, 0), at(2, 4)}, 3},
		{[]Entry{{1, 0, 3}, {2, 0, 3}, {3, 0, 3}, {4, 0, 3}, {5, 0, 3}, {6, 0, 3}}, []string{at(3), at(3), at(3), at(3), at(3), at(3)}, 1},
		{[]Entry{{3, 2, 1}, {1, 0, 1}, {2, 5, 1}, {1, 1, 0}, {2, 0, 0}}, []string{at(1, 0), at(0, -1, -1, -1, -1, 1), at(-1, -1, 1)}, 2},
	} {
		p := loaded(t, k, 1, c.l)
		has(t, p, c.want...)
		if p.Frames() != c.frames {
			t.Errorf("Frames: %d, not %d", p.Frames(), c.frames)
		}
		sorted := slices.Clone(c.l)
		slices.SortFunc(sorted, func(a, b Entry) int { return (a.PID-b.PID)*16 + a.Page - b.Page })
		lists(t, p, sorted...)
		spare(t, k, 6)
	}
}

func TestLoadGoesOn(t *testing.T) { // 23.3: pages that are loaded are shared and freed as others are; frames that are no page's stay
	k := machine(t, 12, 8)
	for i := range 6 {
		bound(t, k, 1, text(96)[i*16:i*16+16])
	}
	p := loaded(t, k, 1, []Entry{{3, 2, 1}, {1, 0, 1}, {2, 5, 1}, {1, 1, 4}})
	writes(t, p, 3, 32, "x")
	lists(t, p, Entry{1, 0, 1}, Entry{1, 1, 4}, Entry{2, 5, 1}, Entry{3, 2, 6})
	is(t, p.Unmap(2, 5), api.OK)
	writes(t, p, 1, 0, "y")
	lists(t, p, Entry{1, 0, 1}, Entry{1, 1, 4}, Entry{3, 2, 6})
	has(t, p, "y"+text(32)[17:]+text(80)[64:], "", zeros(32)+"x"+text(32)[17:])
	is(t, p.Drop(1), api.OK)
	if l := k.List(1, api.Frame); !slices.Equal(l, []int{0, 2, 3, 5, 6}) {
		t.Errorf("frames: %v", l)
	}
	has(t, p, "", "", zeros(32)+"x"+text(32)[17:])
}

func TestLoadWrong(t *testing.T) { // 23.3, R4
	k := machine(t, 12, 8, 4)
	for i := range 6 {
		bound(t, k, 1, text(96)[i*16:i*16+16])
	}
	if bound(t, k, 2, "another") != 6 {
		t.Fatal("another frame")
	}
	right := Entry{1, 0, 0}
	wrong := [][]Entry{
		{right, right},
		{right, {1, 0, 1}},
		{right, {1, 1, 0}},
		{right, {2, 0, 0}, {1, 15, 0}},
		{right, {2, 0, 0}, {2, 5, 0}},
		{{2, 3, 1}, right, {2, 3, 2}},
		{{2, 3, 1}, right, {2, 4, 1}},
		{{6, 15, 5}, {6, 14, 4}, {6, 13, 5}},
		slices.Repeat([]Entry{{1, 0, 0}, {2, 0, 0}, {3, 0, 0}}, 100000),
	}
	for _, pid := range noProcs {
		wrong = append(wrong, []Entry{{pid, 0, 1}}, []Entry{right, {pid, 1, 1}}, []Entry{{pid, 1, 1}, right})
	}
	for _, page := range noPages {
		wrong = append(wrong, []Entry{{1, page, 1}}, []Entry{right, {1, page, 1}}, []Entry{{2, page, 1}, right})
	}
	for _, frame := range []int{math.MinInt, -1, 6, 7, 11, 12, 64, 1 << 32, math.MaxInt} {
		wrong = append(wrong, []Entry{{1, 1, frame}}, []Entry{right, {1, 1, frame}}, []Entry{{2, 0, frame}, right})
	}
	for i, l := range wrong {
		if p, e := Load(k, 1, l); p != nil || e != api.ErrForm {
			t.Errorf("Load %d: %v, %v", i, p, e)
		}
	}
	spare(t, k, 5)
	has(t, loaded(t, k, 1, []Entry{right}), text(16))
	if _, e := Load(k, 2, []Entry{right}); e != api.ErrForm {
		t.Errorf("Load: %v", e)
	}
	has(t, loaded(t, k, 2, []Entry{{1, 0, 6}}), "another")
}

func TestLoadOfLent(t *testing.T) { // 23.3: a frame that is lent is its owner's alone
	k := machine(t, 4, 2, 2)
	frame := bound(t, k, 1, "lent")
	r := k.Do(1, kern.Call{What: kern.Share, H: k.Root(api.Frame, frame), A: 2, B: caps.Use | caps.Grant})
	is(t, r.Err, api.OK)
	l := []Entry{{1, 0, frame}}
	if p, e := Load(k, 2, l); p != nil || e != api.ErrForm {
		t.Errorf("Load: %v, %v", p, e)
	}
	p := loaded(t, k, 1, l)
	is(t, k.Do(2, kern.Call{What: kern.Set, H: r.H, A: 1, B: 'E'}).Err, api.OK)
	has(t, p, "lEnt")
	is(t, p.Drop(1), api.OK)
	is(t, k.Do(2, kern.Call{What: kern.Page, H: r.H}).Err, api.ErrStale)
	spare(t, k, 4)
}

func TestLoadOfList(t *testing.T) { // 23.6: the same memory, which goes on as this would
	k := machine(t, 10, 10)
	p := New(k, 1)
	writes(t, p, 1, 10, text(30))
	forks(t, p, 1, 2, 5)
	writes(t, p, 2, 0, "two")
	is(t, p.Unmap(5, 1), api.OK)
	one, two, five := zeros(10)+text(30), "two"+zeros(7)+text(30), zeros(10)+text(6)+zeros(16)+text(30)[22:]
	q := loaded(t, k, 1, p.List())
	has(t, q, one, two, "", "", five)
	has(t, p, one, two, "", "", five)
	lists(t, q, p.List()...)
	tight(t, k, 1, q, 4)
	writes(t, q, 2, 1, "WO")
	tight(t, k, 1, q, 4)
	writes(t, q, 5, 0, "five")
	tight(t, k, 1, q, 5)
	is(t, q.Drop(1), api.OK)
	has(t, q, "", laid(two, 1, "WO"), "", "", laid(five, 0, "five"))
	tight(t, k, 1, q, 4)
	o := loaded(t, k, 1, q.List())
	has(t, o, "", laid(two, 1, "WO"), "", "", laid(five, 0, "five"))
	lists(t, o, q.List()...)
}

func TestBuffer(t *testing.T) { // ways: which frame a page has is kept in a buffer, too
	k := machine(t, 40, 34)
	p := New(k, 1)
	writes(t, p, 1, 0, text(256))
	writes(t, p, 2, 0, text(256))
	for pid := 1; pid <= 2; pid++ {
		for page := range 16 {
			reads(t, p, pid, page*16, 16, text(256)[page*16:page*16+16])
			keys := p.lately.Keys()
			if len(keys) != tlb.Most || !slices.Contains(keys, tlb.Key{Env: 1, Proc: pid, Page: page}) {
				t.Errorf("buffer: %v", keys)
			}
		}
	}
	hits, misses := p.lately.Counts()
	for range 10 {
		reads(t, p, 2, 255, 1, text(256)[255:])
	}
	if h, m := p.lately.Counts(); h != hits+10 || m != misses {
		t.Errorf("buffer: %d hits, %d misses, then %d, %d", hits, misses, h, m)
	}
	tight(t, k, 1, p, 32)
}

func TestMemory(t *testing.T) { // R3: what is handed in is not changed and not kept; what is answered is its caller's; spare room too
	k := machine(t, 10, 10)
	for i := range 6 {
		bound(t, k, 1, text(96)[i*16:i*16+16])
	}
	room := []Entry{{2, 1, 3}, {1, 0, 1}, {7, 7, 7}}
	p := loaded(t, k, 1, room[:2])
	if !slices.Equal(room, []Entry{{2, 1, 3}, {1, 0, 1}, {7, 7, 7}}) {
		t.Errorf("Load changed %v", room)
	}
	clear(room)
	lists(t, p, Entry{1, 0, 1}, Entry{2, 1, 3})
	told, other := p.List(), p.List()
	clear(told[:cap(told)])
	lists(t, p, Entry{1, 0, 1}, Entry{2, 1, 3})
	is(t, p.Drop(1), api.OK)
	writes(t, p, 2, 0, "a")
	if !slices.Equal(other, []Entry{{1, 0, 1}, {2, 1, 3}}) {
		t.Errorf("List: %v", other)
	}
}

func TestApart(t *testing.T) { // pages of two environments, processes of the same numbers
	k := machine(t, 8, 4, 4)
	p, q := New(k, 1), New(k, 2)
	writes(t, p, 1, 0, text(48))
	has(t, q)
	writes(t, q, 1, 0, "other")
	forks(t, p, 1, 2)
	is(t, p.Write(2, 0, text(17)), api.ErrFull)
	has(t, q, "other")
	writes(t, q, 1, 60, "!")
	is(t, p.Drop(1), api.OK)
	is(t, p.Drop(2), api.OK)
	has(t, q, laid("other"+zeros(56), 60, "!"))
	has(t, p)
	tight(t, k, 1, p, 0)
	tight(t, k, 2, q, 2)
}

func TestNobodysPages(t *testing.T) { // of an environment that is not open, or of no kernel: no frame can be got
	k := machine(t, 8, 4)
	frame := bound(t, k, 1, "a")
	for _, p := range []*Pages{New(k, 2), New(k, 0), New(k, -1), New(k, 4), New(nil, 1), {}} {
		is(t, p.Write(1, 0, "a"), api.ErrFull)
		writes(t, p, 1, 9, "")
		forks(t, p, 1, 2)
		is(t, p.Fork(1, 1), api.ErrArg)
		is(t, p.Drop(1), api.OK)
		is(t, p.Unmap(1, 1), api.OK)
		has(t, p)
		lists(t, p)
		if p.Frames() != 0 {
			t.Errorf("Frames: %d", p.Frames())
		}
	}
	for _, env := range []int{math.MinInt, -1, 0, 2, 3, 4, math.MaxInt} {
		if p, e := Load(k, env, []Entry{{1, 0, frame}}); p != nil || e != api.ErrForm {
			t.Errorf("Load: %v, %v", p, e)
		}
		has(t, loaded(t, k, env, nil))
	}
	if p, e := Load(nil, 1, []Entry{{1, 0, frame}}); p != nil || e != api.ErrForm {
		t.Errorf("Load: %v, %v", p, e)
	}
	has(t, loaded(t, nil, 1, nil))
	spare(t, k, 7)
}

func TestEnvironmentThatIsClosed(t *testing.T) { // nothing is promised then, but that calls end, and touch nothing of others
	k := machine(t, 4, 2, 2)
	p, q := New(k, 1), New(k, 2)
	writes(t, p, 1, 0, text(16))
	forks(t, p, 1, 2)
	is(t, k.Close(1), api.OK)
	writes(t, q, 1, 0, "others")
	p.Write(1, 0, text(9))
	is(t, p.Write(1, 16, "a"), api.ErrFull)
	if s, _ := p.Read(1, 0, 16); strings.Contains(s, "others") {
		t.Errorf("Read: %q", s)
	}
	p.Unmap(1, 0)
	p.Write(2, 0, text(9))
	p.Drop(2)
	has(t, q, "others")
	spare(t, k, 3)
}

func TestNilPages(t *testing.T) { // none: ErrState (ErrArg first); R4, R6
	var p *Pages
	for range 2 {
		refusesArg(t, p)
		for pid := 1; pid <= 6; pid++ {
			for _, addr := range []int{0, 15, 16, 255} {
				for _, n := range []int{0, 1, 256 - addr} {
					if s, e := p.Read(pid, addr, n); s != "" || e != api.ErrState {
						t.Errorf("Read(%d, %d, %d): %q, %v", pid, addr, n, s, e)
					}
					is(t, p.Write(pid, addr, zeros(n)), api.ErrState)
				}
			}
			is(t, p.Fork(pid, pid%6+1), api.ErrState)
			is(t, p.Drop(pid), api.ErrState)
			is(t, p.Unmap(pid, 0), api.ErrState)
			is(t, p.Unmap(pid, 15), api.ErrState)
		}
		lists(t, p)
		if p.Frames() != 0 {
			t.Errorf("Frames: %d", p.Frames())
		}
	}
}
