package files

import (
	"math"
	"slices"
	"strings"
	"testing"

	"imago/api"
	"imago/caps"
	"imago/kern"
)

// far are numbers that are no file.
var far = []int{math.MinInt, -1, 4, 5, 1 << 32, math.MaxInt}

// lengths are how many bytes are written at once: around a block's and a file's edges.
var lengths = []int{1, 2, 7, 8, 9, 15, 16, 17, 24, 25, 31, 32, 33, 40}

func is(t *testing.T, e, want api.Errno) {
	t.Helper()
	if e != want {
		t.Errorf("%v, not %v", e, want)
	}
}

// machine is a kernel of so many blocks, in which environments 1, 2 .. are open and may have so many of them.
func machine(t *testing.T, blocks int, quotas ...int) *kern.Kernel {
	t.Helper()
	k, e := kern.New(64, blocks, 1)
	is(t, e, api.OK)
	for i, n := range quotas {
		if e := k.Open(i+1, 1, [3]int{64 / len(quotas), n, 0}); e != api.OK {
			t.Fatalf("Open(%d, 1, %d): %v", i+1, n, e)
		}
	}
	return k
}

// bound binds a block that no file has yet, with these bytes.
func bound(t *testing.T, k *kern.Kernel, env int, s string) int {
	t.Helper()
	r := k.Do(env, kern.Call{What: kern.Bind, A: api.Block})
	is(t, r.Err, api.OK)
	is(t, k.Do(env, kern.Call{What: kern.Write, H: r.H, S: s}).Err, api.OK)
	return r.N
}

// stands is what stands in a block.
func stands(k *kern.Kernel, env, block int) string {
	return k.Do(env, kern.Call{What: kern.Read, H: k.Root(api.Block, block)}).S
}

// thing is a file, as it is wanted.
type thing struct {
	id   int
	data string
}

// text is so many bytes, all unlike, none 0.
func text(n int) string {
	b := make([]byte, n)
	for i := range b {
		b[i] = byte(200 + i)
	}
	return string(b)
}

func zeros(n int) string { return strings.Repeat("\x00", n) }

func makes(t *testing.T, f *Files, ids ...int) {
	t.Helper()
	for _, id := range ids {
		is(t, f.Make(id), api.OK)
	}
}

func writes(t *testing.T, f *Files, id, from int, s string) {
	t.Helper()
	if e := f.Write(id, from, s); e != api.OK {
		t.Fatalf("Write(%d, %d, %q): %v", id, from, s, e)
	}
}

func reads(t *testing.T, f *Files, id, from, n int, want string) {
	t.Helper()
	if s, e := f.Read(id, from, n); s != want || e != api.OK {
		t.Fatalf("Read(%d, %d, %d): %q, %v, not %q", id, from, n, s, e, want)
	}
}

func spare(t *testing.T, k *kern.Kernel, want int) {
	t.Helper()
	if n := k.Spare()[api.Block-1]; n != want {
		t.Errorf("Spare: %d blocks, not %d", n, want)
	}
}

// loaded are files of a right list.
func loaded(t *testing.T, k *kern.Kernel, env int, l []Info) *Files {
	t.Helper()
	f, e := Load(k, env, l)
	if f == nil || e != api.OK {
		t.Fatalf("Load(%v): %v, %v", l, f, e)
	}
	return f
}

// has wants just these files, in as many blocks as they need.
func has(t *testing.T, f *Files, want ...thing) {
	t.Helper()
	l := f.List()
	if len(l) != len(want) {
		t.Fatalf("List: %v, not %v", l, want)
	}
	blocks := 0
	for i, w := range want {
		if l[i].ID != w.id || l[i].Size != len(w.data) || len(l[i].Blocks) != (len(w.data)+7)/8 {
			t.Errorf("List: %v, not %v", l[i], w)
		}
		if n, e := f.Size(w.id); n != len(w.data) || e != api.OK {
			t.Errorf("Size(%d): %d, %v, not %d", w.id, n, e, len(w.data))
		}
		reads(t, f, w.id, 0, len(w.data)+1, w.data)
		blocks += len(l[i].Blocks)
	}
	if f.Blocks() != blocks {
		t.Errorf("Blocks: %d, not %d", f.Blocks(), blocks)
	}
	for id := range api.MaxFiles {
		if n, e := f.Size(id); (n != 0 || e != api.ErrNone) && !slices.ContainsFunc(want, func(w thing) bool { return w.id == id }) {
			t.Errorf("Size(%d): %d, %v", id, n, e)
		}
	}
}

// tight wants that an environment has just the blocks of its files.
func tight(t *testing.T, k *kern.Kernel, env int, f *Files) {
	t.Helper()
	var blocks []int
	for _, i := range f.List() {
		blocks = append(blocks, i.Blocks...)
	}
	slices.Sort(blocks)
	if l := k.List(env, api.Block); !slices.Equal(l, blocks) {
		t.Errorf("blocks: %v, of files %v", l, blocks)
	}
}

// refuses wants that all calls of a file tell this error, ErrArg first; Make is not among them.
func refuses(t *testing.T, f *Files, id int, want api.Errno) {
	t.Helper()
	is(t, f.Cut(id), want)
	if n, e := f.Size(id); n != 0 || e != want {
		t.Errorf("Size(%d): %d, %v, not %v", id, n, e, want)
	}
	for _, n := range []int{math.MinInt, -1, 0, 1, 32, 33, math.MaxInt} {
		wrong := want
		if n < 0 {
			wrong = api.ErrArg
		}
		for _, s := range []string{"", "a", text(32), text(33)} {
			is(t, f.Write(id, n, s), wrong)
		}
		for _, m := range []int{math.MinInt, -1, 0, 1, math.MaxInt} {
			if m < 0 {
				wrong = api.ErrArg
			} else if n >= 0 {
				wrong = want
			}
			if s, e := f.Read(id, n, m); s != "" || e != wrong {
				t.Errorf("Read(%d, %d, %d): %q, %v, not %v", id, n, m, s, e, wrong)
			}
		}
	}
}

func TestNew(t *testing.T) { // 21.1: none is there, and nothing is bound; files of two calls are apart
	k := machine(t, 8, 8)
	f, g := New(k, 1), New(k, 1)
	if f == nil || g == nil {
		t.Fatal("New: nothing")
	}
	has(t, f)
	for id := range api.MaxFiles {
		refuses(t, f, id, api.ErrNone)
	}
	spare(t, k, 8)
	makes(t, f, 0)
	writes(t, f, 0, 0, "a")
	has(t, g)
	has(t, New(k, 1))
	has(t, f, thing{0, "a"})
	spare(t, k, 7)
}

func TestExample(t *testing.T) { // the chapter's example
	k := machine(t, 8, 8)
	f := New(k, 1)
	makes(t, f, 0)
	writes(t, f, 0, 6, "abcd")
	has(t, f, thing{0, zeros(6) + "abcd"})
	if f.Blocks() != 2 {
		t.Errorf("Blocks: %d", f.Blocks())
	}
}

func TestMake(t *testing.T) { // 21.1: with no bytes and no block; as it is, if it was there
	for id := range api.MaxFiles {
		k := machine(t, 8, 8)
		f := New(k, 1)
		makes(t, f, id)
		has(t, f, thing{id, ""})
		spare(t, k, 8)
		reads(t, f, id, 0, 9, "")
		writes(t, f, id, 0, text(9))
		makes(t, f, id, id)
		has(t, f, thing{id, text(9)})
		other := (id + 1) % api.MaxFiles
		refuses(t, f, other, api.ErrNone)
		makes(t, f, other, id)
		want := []thing{{id, text(9)}, {other, ""}}
		slices.SortFunc(want, func(a, b thing) int { return a.id - b.id })
		has(t, f, want...)
		tight(t, k, 1, f)
	}
}

func TestWrongNumbers(t *testing.T) { // 21.1, 21.2, R4: ErrArg ahead of ErrNone and ErrFull; nothing changes
	k := machine(t, 1, 1)
	f := New(k, 1)
	for range 2 {
		for _, id := range far {
			is(t, f.Make(id), api.ErrArg)
			refuses(t, f, id, api.ErrArg)
		}
		makes(t, f, 2)
		writes(t, f, 2, 0, text(8))
		for _, id := range []int{0, 1, 3} {
			refuses(t, f, id, api.ErrNone)
		}
		for _, n := range []int{math.MinInt, -33, -1} {
			is(t, f.Write(2, n, ""), api.ErrArg)
			is(t, f.Write(2, n, "a"), api.ErrArg)
			is(t, f.Write(2, n, text(33)), api.ErrArg)
			for _, m := range []int{n, 0, 1, math.MaxInt} {
				for _, c := range [][2]int{{n, m}, {m, n}} {
					if s, e := f.Read(2, c[0], c[1]); s != "" || e != api.ErrArg {
						t.Errorf("Read(2, %d, %d): %q, %v", c[0], c[1], s, e)
					}
				}
			}
		}
		has(t, f, thing{2, text(8)})
		tight(t, k, 1, f)
	}
}

func TestCut(t *testing.T) { // 21.1, 21.5: no bytes, and all its blocks are given back; others stay
	for size := range api.MaxFile + 1 {
		k := machine(t, 10, 10)
		f := New(k, 1)
		makes(t, f, 0, 1, 3)
		writes(t, f, 0, 0, "zero")
		writes(t, f, 1, 0, text(size))
		writes(t, f, 3, 0, text(17))
		is(t, f.Cut(1), api.OK)
		has(t, f, thing{0, "zero"}, thing{1, ""}, thing{3, text(17)})
		tight(t, k, 1, f)
		spare(t, k, 6)
		is(t, f.Cut(1), api.OK)
		is(t, f.Cut(2), api.ErrNone)
		writes(t, f, 1, 31, "a")
		has(t, f, thing{0, "zero"}, thing{1, zeros(31) + "a"}, thing{3, text(17)})
		is(t, f.Cut(3), api.OK)
		is(t, f.Cut(0), api.OK)
		is(t, f.Cut(1), api.OK)
		has(t, f, thing{0, ""}, thing{1, ""}, thing{3, ""})
		spare(t, k, 10)
		tight(t, k, 1, f)
	}
}

func TestRead(t *testing.T) { // 21.2: from there on, n at most; nothing changes
	for size := range api.MaxFile + 1 {
		k := machine(t, 4, 4)
		f := New(k, 1)
		makes(t, f, 1)
		writes(t, f, 1, 0, text(size))
		for from := range api.MaxFile + 3 {
			for n := range api.MaxFile + 3 {
				reads(t, f, 1, from, n, text(size)[min(from, size):min(from+n, size)])
			}
			for _, n := range []int{255, 256, 1 << 32, math.MaxInt - from, math.MaxInt} {
				reads(t, f, 1, from, n, text(size)[min(from, size):])
			}
		}
		for _, from := range []int{255, 256, 1 << 32, math.MaxInt - 1, math.MaxInt} {
			for _, n := range []int{0, 1, 33, math.MaxInt} {
				reads(t, f, 1, from, n, "")
			}
		}
		has(t, f, thing{1, text(size)})
	}
}

// after is what a file is behind a write, and whether that may be.
func after(data string, from int, s string) (string, bool) {
	if s == "" {
		return data, true
	}
	if from+len(s) > 32 {
		return data, false
	}
	if from > len(data) {
		data += zeros(from - len(data))
	}
	if from+len(s) >= len(data) {
		return data[:from] + s, true
	}
	return data[:from] + s + data[from+len(s):], true
}

func TestWrite(t *testing.T) { // 21.2, 21.4, 21.5: all sizes, places and many lengths; whatever stood in the last block behind the end
	for size := range api.MaxFile + 1 {
		for from := range api.MaxFile + 3 {
			for _, n := range lengths {
				k := machine(t, 9, 6)
				f := New(k, 1)
				makes(t, f, 0)
				writes(t, f, 0, 0, "other")
				l := f.List()
				old := Info{ID: 2, Size: size}
				for i := range (size + 7) / 8 {
					old.Blocks = append(old.Blocks, bound(t, k, 1, text(32)[i*8:i*8+8]))
				}
				f = loaded(t, k, 1, append(l, old))
				s := strings.Repeat("s", n)
				data, may := after(text(size), from, s)
				want := api.OK
				if !may {
					want = api.ErrFull
				}
				if e := f.Write(2, from, s); e != want {
					t.Fatalf("size %d: Write(2, %d, %d bytes): %v, not %v", size, from, n, e, want)
				}
				has(t, f, thing{0, "other"}, thing{2, data})
				tight(t, k, 1, f)
				if now := f.List()[1]; !slices.Equal(now.Blocks[:len(old.Blocks)], old.Blocks) {
					t.Fatalf("size %d: Write(2, %d, %d bytes): %v, of %v", size, from, n, now, old)
				}
				if t.Failed() {
					return
				}
			}
		}
	}
}

func TestWriteNothing(t *testing.T) { // 21.2: an empty s changes nothing, wherever it is written
	k := machine(t, 4, 2)
	f := New(k, 1)
	makes(t, f, 0, 1)
	writes(t, f, 0, 0, text(9))
	for _, from := range []int{0, 1, 8, 9, 10, 16, 17, 31, 32, 33, 1 << 32, math.MaxInt} {
		writes(t, f, 0, from, "")
		writes(t, f, 1, from, "")
		has(t, f, thing{0, text(9)}, thing{1, ""})
		tight(t, k, 1, f)
	}
}

func TestWriteTooMuch(t *testing.T) { // 21.2, R4: ErrFull, if it had more than MaxFile bytes then
	k := machine(t, 8, 8)
	f := New(k, 1)
	makes(t, f, 0)
	for _, data := range []string{"", text(5), text(8), text(32)} {
		is(t, f.Cut(0), api.OK)
		writes(t, f, 0, 0, data)
		for _, c := range []struct {
			from int
			s    string
		}{
			{0, text(33)}, {1, text(32)}, {32, "a"}, {33, "a"}, {31, "ab"}, {255, "a"}, {256, "a"}, {1 << 32, "a"},
			{math.MaxInt, "a"}, {math.MaxInt - 1, "ab"}, {math.MaxInt - 31, text(32)}, {0, strings.Repeat("a", 1<<24)},
		} {
			is(t, f.Write(0, c.from, c.s), api.ErrFull)
			has(t, f, thing{0, data})
			tight(t, k, 1, f)
		}
	}
}

func TestNoBlock(t *testing.T) { // 21.2, 21.5, R4: ErrFull, if a block cannot be got; those that were got are given back
	for quota := range 6 {
		for size := range min(32, quota*8) + 1 {
			k := machine(t, 8, quota)
			f := New(k, 1)
			makes(t, f, 0, 1)
			writes(t, f, 0, 0, text(size))
			left := quota - (size+7)/8
			for _, id := range []int{0, 1} {
				for n := 1; n <= 32; n++ {
					more := (n + 7) / 8
					if id == 0 {
						more = max(0, more-(size+7)/8)
					}
					if more <= left {
						continue
					}
					is(t, f.Write(id, 0, strings.Repeat("x", n)), api.ErrFull)
					is(t, f.Write(id, n-1, "x"), api.ErrFull)
					has(t, f, thing{0, text(size)}, thing{1, ""})
					spare(t, k, 8-(size+7)/8)
					tight(t, k, 1, f)
				}
			}
			if left > 0 {
				writes(t, f, 1, min(left, 4)*8-1, "y")
				has(t, f, thing{0, text(size)}, thing{1, zeros(min(left, 4)*8-1) + "y"})
			}
		}
	}
}

func TestNoCapability(t *testing.T) { // 21.2: a block cannot be got either, if the environment pays for too many capabilities
	k := machine(t, 8, 8)
	for range 39 {
		is(t, k.Do(1, kern.Call{What: kern.Bind, A: api.Frame}).Err, api.OK)
	}
	f := New(k, 1)
	makes(t, f, 0, 1)
	writes(t, f, 0, 0, "a")
	is(t, f.Write(1, 0, text(17)), api.ErrFull)
	has(t, f, thing{0, "a"}, thing{1, ""})
	tight(t, k, 1, f)
	writes(t, f, 1, 0, text(16))
	is(t, f.Write(1, 16, "b"), api.ErrFull)
	has(t, f, thing{0, "a"}, thing{1, text(16)})
	is(t, f.Cut(0), api.OK)
	writes(t, f, 1, 16, "b")
	has(t, f, thing{0, ""}, thing{1, text(16) + "b"})
	tight(t, k, 1, f)
}

func TestOrderOfBlocks(t *testing.T) { // 21.3, 21.4: files that grow by turns
	k := machine(t, 12, 12)
	f := New(k, 1)
	makes(t, f, 0, 1, 2)
	writes(t, f, 0, 0, text(8))
	writes(t, f, 1, 0, text(16))
	writes(t, f, 0, 8, "second")
	is(t, f.Cut(1), api.OK)
	writes(t, f, 0, 14, "--third---")
	writes(t, f, 2, 3, text(9))
	writes(t, f, 0, 31, "!")
	zero := text(8) + "second--third---" + zeros(7) + "!"
	has(t, f, thing{0, zero}, thing{1, ""}, thing{2, zeros(3) + text(9)})
	l := f.List()
	if !slices.Equal(l[0].Blocks, []int{0, 3, 1, 5}) || !slices.Equal(l[2].Blocks, []int{2, 4}) || l[0].Size != 32 {
		t.Errorf("List: %v", l)
	}
	for i, block := range l[0].Blocks {
		if s := stands(k, 1, block); s != zero[i*8:i*8+8] {
			t.Errorf("block %d: %q", block, s)
		}
	}
	g := loaded(t, k, 1, []Info{{ID: 3, Size: 20, Blocks: []int{5, 1, 0}}, {ID: 0, Size: 6, Blocks: []int{3}}})
	has(t, g, thing{0, "second"}, thing{3, zeros(7) + "!" + "third---" + text(4)})
}

func TestBytes(t *testing.T) { // R5: bytes, whichever
	k := machine(t, 4, 4)
	f := New(k, 1)
	makes(t, f, 0)
	for b := range 256 {
		s := string([]byte{byte(b), 0, 255, byte(b)})
		writes(t, f, 0, 6, s)
		reads(t, f, 0, 6, 4, s)
		has(t, f, thing{0, zeros(6) + s})
	}
}

func TestLoad(t *testing.T) { // 21.3: these files, with the bytes that stand in the blocks; nothing is bound or freed
	k := machine(t, 12, 10)
	for i := range 8 {
		bound(t, k, 1, text(64)[i*8:i*8+8])
	}
	for _, c := range []struct {
		l    []Info
		want []thing
	}{
		{nil, nil},
		{[]Info{}, nil},
		{[]Info{{ID: 3}}, []thing{{3, ""}}},
		{[]Info{{ID: 2, Blocks: []int{}}, {ID: 0}}, []thing{{0, ""}, {2, ""}}},
		{[]Info{{1, 1, []int{7}}}, []thing{{1, text(64)[56:57]}}},
		{[]Info{{3, 32, []int{4, 5, 6, 7}}, {0, 25, []int{0, 1, 2, 3}}}, []thing{{0, text(25)}, {3, text(64)[32:]}}},
		{[]Info{{2, 8, []int{2}}, {1, 9, []int{1, 0}}, {3, 16, []int{3, 4}}, {0, 17, []int{7, 6, 5}}},
			[]thing{{0, text(64)[56:] + text(56)[48:] + text(41)[40:]}, {1, text(16)[8:] + text(1)}, {2, text(24)[16:]}, {3, text(40)[24:]}}},
	} {
		f := loaded(t, k, 1, c.l)
		has(t, f, c.want...)
		spare(t, k, 4)
		for _, i := range c.l {
			at := slices.IndexFunc(f.List(), func(o Info) bool { return o.ID == i.ID })
			if at < 0 || !slices.Equal(f.List()[at].Blocks, i.Blocks) {
				t.Errorf("List: %v, not %v", f.List(), i)
			}
		}
	}
	f := loaded(t, k, 1, []Info{{1, 9, []int{6, 2}}})
	writes(t, f, 1, 20, "a")
	has(t, f, thing{1, text(64)[48:56] + text(17)[16:] + zeros(11) + "a"})
	if l := f.List(); !slices.Equal(l[0].Blocks, []int{6, 2, 8}) {
		t.Errorf("List: %v", l)
	}
	is(t, f.Cut(1), api.OK)
	if l := k.List(1, api.Block); !slices.Equal(l, []int{0, 1, 3, 4, 5, 7}) {
		t.Errorf("blocks: %v", l)
	}
}

func TestLoadWrong(t *testing.T) { // 21.3, R4
	k := machine(t, 12, 8, 4)
	for i := range 6 {
		bound(t, k, 1, text(48)[i*8:i*8+8])
	}
	if bound(t, k, 2, "another") != 6 {
		t.Fatal("another block")
	}
	right := Info{ID: 0, Size: 9, Blocks: []int{0, 1}}
	wrong := [][]Info{
		{right, right},
		{right, {ID: 1, Size: 1, Blocks: []int{1}}},
		{right, {ID: 1, Size: 9, Blocks: []int{2, 0}}},
		{{ID: 1, Size: 16, Blocks: []int{2, 2}}},
		{{ID: 1, Size: 32, Blocks: []int{2, 3, 4, 2}}},
		{{ID: 1}, {ID: 2}, {ID: 1}},
		{{ID: 1}, {ID: 1, Size: 8, Blocks: []int{3}}},
		slices.Repeat([]Info{{ID: 0}, {ID: 1}, {ID: 2}, {ID: 3}}, 100000),
		{{ID: 1, Size: 8, Blocks: make([]int, 1<<20)}},
	}
	for _, id := range far {
		wrong = append(wrong, []Info{{ID: id}}, []Info{right, {ID: id, Size: 8, Blocks: []int{3}}}, []Info{{ID: id}, right})
	}
	for _, size := range []int{math.MinInt, -8, -7, -1, 33, 40, 1 << 32, math.MaxInt - 7, math.MaxInt} {
		for n := range 6 {
			wrong = append(wrong, []Info{{ID: 1, Size: size, Blocks: []int{0, 1, 2, 3, 4}[:n]}})
		}
	}
	for size := range 33 {
		for n := range 6 {
			if n != (size+7)/8 {
				wrong = append(wrong, []Info{{ID: 1, Size: size, Blocks: []int{0, 1, 2, 3, 4}[:n]}})
			}
		}
	}
	for _, block := range []int{math.MinInt, -1, 6, 7, 11, 12, 64, 1 << 32, math.MaxInt} {
		wrong = append(wrong, []Info{{ID: 1, Size: 1, Blocks: []int{block}}}, []Info{right, {ID: 1, Size: 20, Blocks: []int{2, 3, block}}})
	}
	for i, l := range wrong {
		if f, e := Load(k, 1, l); f != nil || e != api.ErrForm {
			t.Errorf("Load %d: %v, %v", i, f, e)
		}
	}
	spare(t, k, 5)
	has(t, loaded(t, k, 1, []Info{right}), thing{0, text(9)})
	if _, e := Load(k, 2, []Info{right}); e != api.ErrForm {
		t.Errorf("Load: %v", e)
	}
	has(t, loaded(t, k, 2, []Info{{ID: 0, Size: 7, Blocks: []int{6}}}), thing{0, "another"})
}

func TestLoadOfShared(t *testing.T) { // 21.3: a block that is shared is its owner's alone
	k := machine(t, 4, 2, 2)
	block := bound(t, k, 1, "shared")
	r := k.Do(1, kern.Call{What: kern.Share, H: k.Root(api.Block, block), A: 2, B: caps.Use | caps.Grant})
	is(t, r.Err, api.OK)
	l := []Info{{ID: 0, Size: 6, Blocks: []int{block}}}
	if f, e := Load(k, 2, l); f != nil || e != api.ErrForm {
		t.Errorf("Load: %v, %v", f, e)
	}
	f := loaded(t, k, 1, l)
	is(t, k.Do(2, kern.Call{What: kern.Write, H: r.H, S: "SH"}).Err, api.OK)
	has(t, f, thing{0, "SHared"})
	is(t, f.Cut(0), api.OK)
	is(t, k.Do(2, kern.Call{What: kern.Read, H: r.H}).Err, api.ErrStale)
	spare(t, k, 4)
}

func TestLoadOfList(t *testing.T) { // 21.6: the same files, which go on as these would
	k := machine(t, 10, 10)
	f := New(k, 1)
	makes(t, f, 0, 2, 3)
	writes(t, f, 2, 3, text(20))
	writes(t, f, 0, 0, "zero")
	g := loaded(t, k, 1, f.List())
	want := []thing{{0, "zero"}, {2, zeros(3) + text(20)}, {3, ""}}
	has(t, g, want...)
	has(t, f, want...)
	tight(t, k, 1, g)
	writes(t, g, 0, 1, "EROS")
	reads(t, f, 0, 0, 4, "zERO")
	makes(t, g, 1)
	is(t, g.Cut(2), api.OK)
	writes(t, g, 1, 0, text(17))
	has(t, g, thing{0, "zEROS"}, thing{1, text(17)}, thing{2, ""}, thing{3, ""})
	tight(t, k, 1, g)
	has(t, loaded(t, k, 1, g.List()), thing{0, "zEROS"}, thing{1, text(17)}, thing{2, ""}, thing{3, ""})
}

func TestMemory(t *testing.T) { // R3: what is handed in is not changed and not kept; what is answered is its caller's; spare room too
	k := machine(t, 10, 10)
	for i := range 6 {
		bound(t, k, 1, text(48)[i*8:i*8+8])
	}
	blocks := []int{3, 1, 0, 9, 9}
	room := []Info{{1, 9, blocks[:2]}, {0, 1, blocks[2:3]}, {7, 7, nil}}
	f := loaded(t, k, 1, room[:2])
	if !slices.Equal(blocks, []int{3, 1, 0, 9, 9}) || room[0].ID != 1 || room[1].Size != 1 || room[2].ID != 7 {
		t.Errorf("Load changed %v", room)
	}
	want := []thing{{0, text(1)}, {1, text(32)[24:] + text(9)[8:]}}
	clear(blocks)
	clear(room)
	has(t, f, want...)
	told, other := f.List(), f.List()
	for _, i := range told {
		clear(i.Blocks[:cap(i.Blocks)])
	}
	clear(told[:cap(told)])
	has(t, f, want...)
	writes(t, f, 1, 16, "more")
	if !slices.Equal(other[0].Blocks, []int{0}) || !slices.Equal(other[1].Blocks, []int{3, 1}) || other[1].Size != 9 {
		t.Errorf("List: %v", other)
	}
	l := f.List()
	_ = append(l[0].Blocks, 5, 5, 5)
	_ = append(l[1].Blocks, 5)
	if !slices.Equal(l[1].Blocks, []int{3, 1, 6}) || !slices.Equal(l[0].Blocks, []int{0}) {
		t.Errorf("List: %v", l)
	}
	has(t, f, want[0], thing{1, want[1].data + zeros(7) + "more"})
}

func TestApart(t *testing.T) { // files of two environments
	k := machine(t, 8, 4, 4)
	f, g := New(k, 1), New(k, 2)
	makes(t, f, 0)
	writes(t, f, 0, 0, text(8))
	has(t, g)
	makes(t, g, 0)
	writes(t, g, 0, 0, "other")
	writes(t, f, 0, 8, text(24))
	is(t, f.Write(0, 32, "a"), api.ErrFull)
	makes(t, f, 1)
	is(t, f.Write(1, 0, "a"), api.ErrFull)
	has(t, g, thing{0, "other"})
	writes(t, g, 0, 31, "!")
	is(t, f.Cut(0), api.OK)
	has(t, g, thing{0, "other" + zeros(26) + "!"})
	has(t, f, thing{0, ""}, thing{1, ""})
	tight(t, k, 1, f)
	tight(t, k, 2, g)
}

func TestNobodysFiles(t *testing.T) { // of an environment that is not open, or of no kernel: no block can be got
	k := machine(t, 8, 4)
	for _, f := range []*Files{New(k, 2), New(k, 0), New(k, -1), New(k, 4), New(nil, 1), {}} {
		makes(t, f, 0)
		writes(t, f, 0, 9, "")
		is(t, f.Write(0, 0, "a"), api.ErrFull)
		is(t, f.Write(1, 0, "a"), api.ErrNone)
		is(t, f.Cut(0), api.OK)
		has(t, f, thing{0, ""})
	}
	block := bound(t, k, 1, "a")
	for _, env := range []int{math.MinInt, -1, 0, 2, 3, 4, math.MaxInt} {
		if f, e := Load(k, env, []Info{{ID: 0, Size: 1, Blocks: []int{block}}}); f != nil || e != api.ErrForm {
			t.Errorf("Load: %v, %v", f, e)
		}
		has(t, loaded(t, k, env, []Info{{ID: 1}}), thing{1, ""})
	}
	if f, e := Load(nil, 1, []Info{{ID: 0, Size: 1, Blocks: []int{block}}}); f != nil || e != api.ErrForm {
		t.Errorf("Load: %v, %v", f, e)
	}
	has(t, loaded(t, nil, 1, []Info{{ID: 1}}), thing{1, ""})
}

func TestEnvironmentThatIsClosed(t *testing.T) { // nothing is promised then, but that calls end, and touch nothing of others
	k := machine(t, 4, 2, 2)
	f, g := New(k, 1), New(k, 2)
	makes(t, f, 0)
	writes(t, f, 0, 0, text(16))
	is(t, k.Close(1), api.OK)
	makes(t, g, 0)
	writes(t, g, 0, 0, "others")
	f.Write(0, 0, text(9))
	is(t, f.Write(0, 16, "a"), api.ErrFull)
	if s, _ := f.Read(0, 0, 16); strings.Contains(s, "others") {
		t.Errorf("Read: %q", s)
	}
	f.Cut(0)
	has(t, g, thing{0, "others"})
	spare(t, k, 3)
}

func TestNilFiles(t *testing.T) { // Make ErrState, others ErrNone (ErrArg first); R4, R6
	var f *Files
	for range 2 {
		for id := range api.MaxFiles {
			is(t, f.Make(id), api.ErrState)
			refuses(t, f, id, api.ErrNone)
		}
		for _, id := range far {
			is(t, f.Make(id), api.ErrArg)
			refuses(t, f, id, api.ErrArg)
		}
		has(t, f)
		if f.Blocks() != 0 {
			t.Errorf("Blocks: %d", f.Blocks())
		}
	}
}
