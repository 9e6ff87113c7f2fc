package tlb

import (
	"math"
	"slices"
	"testing"
)

func key(env, proc, page int) Key { return Key{Env: env, Proc: proc, Page: page} }

// full is a buffer of Most keys, two environments' with two processes each; four frames, each of two pages.
func full() (*Buffer, []Key) {
	b := New()
	var keys []Key
	for i := range Most {
		k := key(i%2, i/2%2, i)
		keys = append(keys, k)
		b.Put(k, Entry{Frame: i / 2, Write: i%3 == 0})
	}
	return b, keys
}

// holds wants just these keys, in this order, each with an entry, and that no other one is told.
func holds(t *testing.T, b *Buffer, want ...Key) {
	t.Helper()
	if k := b.Keys(); !slices.Equal(k, want) {
		t.Errorf("Keys: %v, not %v", k, want)
	}
	for i := range Most {
		for env := range 2 {
			for proc := range 2 {
				k := key(env, proc, i)
				e, ok := b.Get(k)
				if ok != slices.Contains(want, k) || !ok && e != (Entry{}) {
					t.Errorf("Get(%v): %v, %v", k, e, ok)
				}
			}
		}
	}
}

func counts(t *testing.T, b *Buffer, hits, misses int) {
	t.Helper()
	if h, m := b.Counts(); h != hits || m != misses {
		t.Errorf("Counts: %d, %d, not %d, %d", h, m, hits, misses)
	}
}

func without(keys []Key, goes func(Key) bool) []Key {
	return slices.DeleteFunc(slices.Clone(keys), goes)
}

func TestNew(t *testing.T) { // 4.1
	b := New()
	if b == nil || len(b.Keys()) != 0 || Most != 8 {
		t.Fatalf("New: %v", b)
	}
	counts(t, b, 0, 0)
	holds(t, b)
}

func TestPutThenGet(t *testing.T) { // 4.1, 4.3: any numbers are keys and frames; a key is all three of its fields
	b := New()
	far := []int{math.MinInt, -1, 0, math.MaxInt}
	for i, n := range far {
		b.Put(key(n, 1, 1), Entry{Frame: n})
		b.Put(key(1, n, 1), Entry{Frame: i, Write: true})
		b.Put(key(1, 1, n), Entry{Frame: -n, Write: true})
		for j, want := range []Entry{{n, false}, {i, true}, {-n, true}} {
			k := []Key{key(n, 1, 1), key(1, n, 1), key(1, 1, n)}[j]
			if e, ok := b.Get(k); e != want || !ok {
				t.Errorf("Get(%v): %v, %v", k, e, ok)
			}
		}
	}
	counts(t, b, 12, 0)
}

func TestLastPutIsGot(t *testing.T) { // 4.1, 4.3: to put anew takes the place of what was there, both fields
	b, keys := full()
	for i, k := range keys {
		for _, want := range []Entry{{9, true}, {9, false}, {3, false}, {}, {-1, true}} {
			b.Put(k, want)
			if e, ok := b.Get(k); e != want || !ok {
				t.Errorf("Get(%v): %v, %v", k, e, ok)
			}
		}
		for j, other := range keys[i+1:] {
			n := i + 1 + j
			if e, ok := b.Get(other); e != (Entry{n / 2, n%3 == 0}) || !ok {
				t.Errorf("Get(%v): %v, %v", other, e, ok)
			}
		}
	}
	holds(t, b, keys...)
}

func TestOldestGoes(t *testing.T) { // 4.1, 4.2, 4.4, and the chapter's example
	b := New()
	var put []Key
	for i := range 3 * Most {
		put = append(put, key(i%3, 7, 100+i))
		b.Put(put[i], Entry{Frame: i})
		want := put[max(0, len(put)-Most):]
		if k := b.Keys(); !slices.Equal(k, want) {
			t.Fatalf("%d put: %v", i+1, k)
		}
		for j, k := range put {
			e, ok := b.Get(k)
			if there := j > i-Most; ok != there || there && e.Frame != j || !there && e != (Entry{}) {
				t.Errorf("%d put: Get(%v): %v, %v", i+1, k, e, ok)
			}
		}
	}
}

func TestAgeStays(t *testing.T) { // words: to put a key anew leaves its age, and so does to get it
	b, keys := full()
	b.Put(keys[0], Entry{Frame: 30})
	b.Put(keys[3], Entry{Frame: 31})
	b.Get(keys[0])
	if k := b.Keys(); !slices.Equal(k, keys) {
		t.Errorf("Keys: %v", k)
	}
	ninth := key(1, 1, 0)
	b.Put(ninth, Entry{Frame: 32})
	holds(t, b, append(keys[1:], ninth)...)
}

func TestDroppedKeyIsNewAgain(t *testing.T) { // words: the oldest one is that put first of those that are there
	b, keys := full()
	if !b.Drop(keys[0]) {
		t.Error("Drop")
	}
	b.Put(keys[0], Entry{Frame: 5})
	want := append(slices.Clone(keys[1:]), keys[0])
	holds(t, b, want...)
	b.Put(key(1, 1, 0), Entry{})
	holds(t, b, append(want[1:], key(1, 1, 0))...)
}

func TestDrop(t *testing.T) { // 4.1, 4.4
	for i := range Most {
		b, keys := full()
		for _, other := range []Key{key(keys[i].Env+2, keys[i].Proc, i), key(keys[i].Env, keys[i].Proc+2, i), key(keys[i].Env, keys[i].Proc, i+Most)} {
			if b.Drop(other) {
				t.Errorf("Drop(%v)", other)
			}
		}
		if len(b.Keys()) != Most {
			t.Errorf("Keys: %v", b.Keys())
		}
		if !b.Drop(keys[i]) || b.Drop(keys[i]) {
			t.Errorf("Drop(%v)", keys[i])
		}
		counts(t, b, 0, 0)
		holds(t, b, slices.Delete(slices.Clone(keys), i, i+1)...)
		b.Put(key(1, 1, 0), Entry{}) // there is room for one more
		if n := len(b.Keys()); n != Most {
			t.Errorf("%d keys", n)
		}
	}
}

func TestDropProc(t *testing.T) { // 4.1, 4.4: the process of that environment alone
	for env := -1; env < 3; env++ {
		for proc := -1; proc < 3; proc++ {
			b, keys := full()
			want := without(keys, func(k Key) bool { return k.Env == env && k.Proc == proc })
			if n := b.DropProc(env, proc); n != Most-len(want) {
				t.Errorf("DropProc(%d, %d): %d", env, proc, n)
			}
			if n := b.DropProc(env, proc); n != 0 {
				t.Errorf("DropProc(%d, %d) again: %d", env, proc, n)
			}
			holds(t, b, want...)
		}
	}
}

func TestDropEnv(t *testing.T) { // 4.1, 4.4
	for env := -1; env < 3; env++ {
		b, keys := full()
		want := without(keys, func(k Key) bool { return k.Env == env })
		if n := b.DropEnv(env); n != Most-len(want) {
			t.Errorf("DropEnv(%d): %d", env, n)
		}
		if n := b.DropEnv(env); n != 0 {
			t.Errorf("DropEnv(%d) again: %d", env, n)
		}
		holds(t, b, want...)
	}
}

func TestDropFrame(t *testing.T) { // 4.1, 4.4: the frame of the entry that was put last counts
	for frame := -1; frame < 5; frame++ {
		b, keys := full()
		want := without(keys, func(k Key) bool { return k.Page/2 == frame })
		if n := b.DropFrame(frame); n != Most-len(want) {
			t.Errorf("DropFrame(%d): %d", frame, n)
		}
		if n := b.DropFrame(frame); n != 0 {
			t.Errorf("DropFrame(%d) again: %d", frame, n)
		}
		holds(t, b, want...)
	}
	b, keys := full()
	b.Put(keys[0], Entry{Frame: 3})
	if n := b.DropFrame(0); n != 1 {
		t.Errorf("DropFrame(0): %d", n)
	}
	if n := b.DropFrame(3); n != 3 {
		t.Errorf("DropFrame(3): %d", n)
	}
	holds(t, b, keys[2:6]...)
}

func TestCounts(t *testing.T) { // 4.2: of what is asked for by Get alone
	b, keys := full()
	counts(t, b, 0, 0)
	b.Get(keys[0])
	b.Get(keys[0])
	b.Get(key(5, 5, 5))
	counts(t, b, 2, 1)
	b.Put(keys[0], Entry{})
	b.Put(key(5, 5, 5), Entry{})
	b.Drop(keys[1])
	b.Drop(keys[1])
	b.DropFrame(3)
	b.DropProc(0, 0)
	b.DropEnv(1)
	b.Keys()
	counts(t, b, 2, 1)
	b.Get(keys[0])
	b.Get(key(5, 5, 5))
	counts(t, b, 3, 2)
}

func TestKeysAreNotShared(t *testing.T) { // R3: spare room too
	b, keys := full()
	b.Drop(keys[7])
	told, again := b.Keys(), b.Keys()
	for i := range told {
		told[i] = Key{}
	}
	_ = append(told, key(9, 9, 9))
	if !slices.Equal(again, keys[:7]) {
		t.Errorf("Keys: %v", again)
	}
	b.Put(key(4, 4, 4), Entry{})
	b.DropEnv(0)
	if !slices.Equal(again, keys[:7]) {
		t.Errorf("Keys: %v", again)
	}
	if k := b.Keys(); !slices.Equal(k, []Key{keys[1], keys[3], keys[5], key(4, 4, 4)}) {
		t.Errorf("Keys: %v", k)
	}
}

func TestNilBuffer(t *testing.T) { // a nil buffer is empty; nothing is put
	var b *Buffer
	k := key(1, 2, 3)
	b.Put(k, Entry{Frame: 4, Write: true})
	if e, ok := b.Get(k); e != (Entry{}) || ok {
		t.Errorf("Get: %v, %v", e, ok)
	}
	if b.Drop(k) || b.DropProc(1, 2) != 0 || b.DropEnv(1) != 0 || b.DropFrame(4) != 0 || len(b.Keys()) != 0 {
		t.Error("a nil buffer has something")
	}
	counts(t, b, 0, 0)
}

func TestZeroBuffer(t *testing.T) { // one that New didn't make is an empty one
	var b Buffer
	k := key(1, 2, 3)
	if _, ok := b.Get(k); ok || b.Drop(k) || b.DropEnv(1) != 0 {
		t.Error("a zero buffer has something")
	}
	b.Put(k, Entry{Frame: 4})
	if e, ok := b.Get(k); e.Frame != 4 || !ok {
		t.Errorf("Get: %v, %v", e, ok)
	}
	counts(t, &b, 1, 1)
}

// plain is a buffer in the plainest way: a list of keys with their entries, the oldest one first.
type plain struct {
	list         []line
	hits, misses int
}

type line struct {
	k Key
	e Entry
}

func (p *plain) put(k Key, e Entry) {
	for i := range p.list {
		if p.list[i].k == k {
			p.list[i].e = e
			return
		}
	}
	p.list = append(p.list, line{k, e})
	p.list = p.list[max(0, len(p.list)-Most):]
}

func (p *plain) get(k Key) (Entry, bool) {
	for _, l := range p.list {
		if l.k == k {
			p.hits++
			return l.e, true
		}
	}
	p.misses++
	return Entry{}, false
}

func (p *plain) drop(goes func(line) bool) int {
	before := len(p.list)
	p.list = slices.DeleteFunc(p.list, goes)
	return before - len(p.list)
}

// step makes one call of both buffers, which five numbers choose, and tells whether both answer the same.
func step(b *Buffer, p *plain, what, env, proc, page, frame int) bool {
	k := key(env, proc, page)
	switch what {
	case 0:
		n := p.drop(func(l line) bool { return l.k == k })
		return b.Drop(k) == (n == 1)
	case 1:
		return b.DropProc(env, proc) == p.drop(func(l line) bool { return l.k.Env == env && l.k.Proc == proc })
	case 2:
		return b.DropFrame(frame) == p.drop(func(l line) bool { return l.e.Frame == frame })
	case 3:
		return page != 0 || b.DropEnv(env) == p.drop(func(l line) bool { return l.k.Env == env })
	case 4, 5, 6, 7:
		e, ok := b.Get(k)
		f, found := p.get(k)
		return e == f && ok == found
	}
	b.Put(k, Entry{Frame: frame, Write: page%2 == 0})
	p.put(k, Entry{Frame: frame, Write: page%2 == 0})
	return true
}

func TestManySteps(t *testing.T) { // 4.1 to 4.4: held against a plain list, over many calls
	b, p := New(), &plain{}
	seed := uint32(1)
	next := func(n uint32) int {
		seed = seed*1664525 + 1013904223
		return int((seed >> 16) % n)
	}
	fullest := 0
	for i := range 100000 {
		if !step(b, p, next(24), next(3), next(2), next(4), next(5)) {
			t.Fatalf("step %d differs", i)
		}
		var keys []Key
		for _, l := range p.list {
			keys = append(keys, l.k)
		}
		if k := b.Keys(); !slices.Equal(k, keys) || len(k) > Most {
			t.Fatalf("step %d: %v, not %v", i, k, keys)
		}
		fullest = max(fullest, len(keys))
	}
	counts(t, b, p.hits, p.misses)
	if fullest != Most || p.hits < 1000 || p.misses < 1000 {
		t.Errorf("too little was asked: %d, %d, %d", fullest, p.hits, p.misses)
	}
}
