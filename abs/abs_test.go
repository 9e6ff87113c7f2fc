package abs

import (
	"reflect"
	"slices"
	"strings"
	"testing"

	"imago/api"
	"imago/areas"
	"imago/desc"
	"imago/kern"
	"imago/opens"
	"imago/spans"
	"imago/sys"
)

// plainly is a view whose lists without an element are nil, in new memory.
func plainly(v View) View {
	v.Procs = slices.Concat(v.Procs)
	for i, p := range v.Procs {
		v.Procs[i].Areas, v.Procs[i].Slots = slices.Concat(p.Areas), slices.Concat(p.Slots)
	}
	v.Files, v.Pipes, v.Shared = slices.Concat(v.Files), slices.Concat(v.Pipes), slices.Concat(v.Shared)
	return v
}

// identical tells whether two views are the same; a list without an element may be nil or empty.
func identical(a, b View) bool { return reflect.DeepEqual(plainly(a), plainly(b)) }

// is wants that a system has that view.
func is(t *testing.T, s *sys.System, want View) {
	t.Helper()
	for range 2 { // R6
		if v := Of(s); !identical(v, want) {
			t.Fatalf("Of: %v, not %v", v, want)
		}
	}
}

func TestExample(t *testing.T) { // the chapter's example
	versions(t, func(t *testing.T, version int) {
		is(t, start(t, version).s, View{
			Procs: []Proc{{
				PID:    1,
				Memory: strings.Repeat("\x00", 256),
				Areas:  []Area{{0, 4, true}},
				Slots:  []Slot{{0, 1, 0, 0}, {1, 1, 0, 0}},
			}},
			Shared: []int{0, 1},
		})
	})
}

func TestOf(t *testing.T) { // 29.1: all that there is: processes, rising, also those that have ended; areas by their first pages; slots, files, pipes, who shares
	versions(t, func(t *testing.T, version int) {
		is(t, family(t, version).s, familyView(version))
	})
}

func TestOfEach(t *testing.T) { // 29.1: each process by itself: its last one has ended, it is the only one, it is gone
	versions(t, func(t *testing.T, version int) {
		b := family(t, version)
		want := familyView(version)
		b.exits(1, 9) // 3, that had ended, is gone too
		want.Procs = []Proc{want.Procs[1], want.Procs[3]}
		want.Procs[0].Parent = 0
		want.Pipes = want.Pipes[1:]
		want.Shared = of2(version, []int{0, 1, 2, 3, 4, 5, 6, 7, 8, 9, 10, 11}, []int{0, 1, 0, 3, 4, 5, 0, 1, 0, 3, 4, 5})
		is(t, b.s, want)
		b.exits(4, 255)
		want.Procs[1] = Proc{PID: 4, Parent: 2, Ended: true, Status: 255, CPU: api.CPU{R: [8]uint16{0, 255}, PC: 4}}
		want.Shared = of2(version, []int{0, 1, 2, 3, 4, 5}, []int{0, 1, 0, 3, 4, 5})
		is(t, b.s, want)
		b.exits(2, 0)
		is(t, b.s, View{Files: want.Files})
	})
}

func TestNone(t *testing.T) { // 29.1: of nil nothing; nor of a system that has nothing; R4
	versions(t, func(t *testing.T, version int) {
		b := start(t, version)
		b.load(sys.State{Version: version})
		for _, s := range []*sys.System{nil, {}, b.s} {
			is(t, s, View{})
		}
	})
}

func TestNoKernel(t *testing.T) { // 29.1: a system without a kernel, or of an environment that is closed, has its tables
	versions(t, func(t *testing.T, version int) {
		want := Of(start(t, version).s)
		for _, k := range []*kern.Kernel{nil, machine(t, version)} {
			s, e := sys.New(k, 2, version, programs(t))
			if e != api.OK {
				t.Fatal(e)
			}
			is(t, s, want)
		}
		b := family(t, version)
		if e := b.k.Close(1); e != api.OK {
			t.Fatal(e)
		}
		want = familyView(version) // but for what stood in frames and blocks
		for i, p := range want.Procs {
			want.Procs[i].Memory = strings.Repeat("\x00", len(p.Memory))
		}
		want.Files[1].Data = strings.Repeat("\x00", 9)
		is(t, b.s, want)
	})
}

func TestAreas(t *testing.T) { // 29.1: areas of either version by their first pages, each with its Count, and whether it may be written: in version 1 it may, in version 2 as it is protected
	procs := []sys.Proc{{PID: 1}, {PID: 6}}
	for _, l := range [][]areas.Area{
		{{PID: 1, First: 0, Count: 16}},
		{{PID: 1, First: 15, Count: 1}, {PID: 6, First: 1, Count: 2}, {PID: 1, First: 0, Count: 15}},
		{{PID: 6, First: 12, Count: 1}, {PID: 6, First: 8, Count: 2}, {PID: 1, First: 9, Count: 3}, {PID: 6, First: 4, Count: 3}, {PID: 6, First: 0, Count: 4}, {PID: 1, First: 2, Count: 5}},
		{{PID: 1, First: 4, Count: 1}, {PID: 1, First: 1, Count: 1}, {PID: 1, First: 9, Count: 1}, {PID: 1, First: 7, Count: 1}},
	} {
		var want [2][]Area // of processes 1 and 6
		for page := range 16 {
			for _, a := range l {
				if a.First == page {
					want[a.PID/6] = append(want[a.PID/6], Area{page, a.Count, true})
				}
			}
		}
		wants := func(s *sys.System) {
			t.Helper()
			is(t, s, View{Procs: []Proc{{PID: 1, Memory: bytes(256, nil), Areas: want[0]}, {PID: 6, Memory: bytes(256, nil), Areas: want[1]}}})
		}
		b := start(t, 1)
		b.load(sys.State{Version: 1, Procs: procs, Areas: l})
		wants(b.s)
		b = start(t, 2)
		var second []spans.Span
		for i := range want {
			for j, a := range want[i] {
				want[i][j].Write = j%2 == 1
				second = append(second, spans.Span{PID: 1 + 5*i, First: a.First, Count: a.Count, Prot: of2(j%2+1, spans.ReadOnly, spans.ReadWrite)})
			}
		}
		b.load(sys.State{Version: 2, Procs: procs, Spans: second})
		wants(b.s)
	}
}

func TestSlots(t *testing.T) { // 29.1: each process's slots, rising, with all that a descriptor has
	versions(t, func(t *testing.T, version int) {
		b := start(t, version)
		for id := range 4 {
			b.does(1, 5, 2+id, id, 0)
			b.does(1, 11, 32-id, 2+id, 32-id)
		}
		b.does(1, 6, 0, 0)
		b.does(1, 6, 0, 3)
		b.does(1, 9, 768) // a Reader in 0, a Writer in 3
		b.does(1, 2, 2)
		b.does(1, 6, 0, 0)
		b.does(2, 6, 0, 3)
		b.does(2, 6, 0, 5)
		v := Of(b.s)
		first := []Slot{{1, 1, 0, 0}, {2, 2, 0, 32}, {3, 4, 0, 0}, {4, 2, 2, 30}, {5, 2, 3, 29}}
		other := []Slot{{0, 3, 0, 0}, {1, 1, 0, 0}, {2, 2, 0, 32}, {4, 2, 2, 30}}
		if !slices.Equal(v.Procs[0].Slots, first) || !slices.Equal(v.Procs[1].Slots, other) {
			t.Errorf("Slots: %v", v)
		}
		want := of2(version, []int{0, 1, 2, 3, 4, 5, 6, 7, 8}, []int{0, 1, 2, 3, 4, 5, 0, 1, 3})
		if !slices.Equal(v.Shared, want) {
			t.Errorf("Shared: %v, not %v", v.Shared, want)
		}
	})
}

func TestShared(t *testing.T) { // 29.1: the place of the first slot that names the same object, whatever IDs these have; slots of the same Kind, Obj and Off share no place by that
	for _, c := range []struct {
		ids, want []int
	}{
		{[]int{0}, []int{0}},
		{[]int{35}, []int{0}},
		{[]int{1, 0}, []int{0, 1}},
		{[]int{9, 9, 9}, []int{0, 0, 0}},
		{[]int{9, 3, 9, 3, 0, 9}, []int{0, 1, 0, 1, 4, 0}},
		{[]int{5, 4, 3, 2, 1, 0, 0, 1, 2, 3, 4, 5, 35}, []int{0, 1, 2, 3, 4, 5, 5, 4, 3, 2, 1, 0, 12}},
		{[]int{1, 2, 3, 4, 5, 6, 7, 8, 9, 10, 11, 12, 12, 12, 1}, []int{0, 1, 2, 3, 4, 5, 6, 7, 8, 9, 10, 11, 11, 11, 0}},
	} {
		first, second := sys.State{Version: 1}, sys.State{Version: 2}
		for i, id := range c.ids {
			pid, slot := 1+i/6*2, i%6
			if slot == 0 {
				first.Procs = append(first.Procs, sys.Proc{PID: pid})
			}
			first.Desc = append(first.Desc, desc.Entry{PID: pid, Slot: slot, Kind: api.Console})
			second.Slots = append(second.Slots, opens.Slot{PID: pid, Slot: slot, Open: id})
			if o := (opens.Open{ID: id, Kind: api.Console}); !slices.Contains(second.Opens, o) {
				second.Opens = append(second.Opens, o)
			}
		}
		second.Procs = first.Procs
		a, b := start(t, 1), start(t, 2)
		a.load(first)
		b.load(second)
		v, w := Of(a.s), Of(b.s)
		if !slices.Equal(w.Shared, c.want) {
			t.Errorf("Shared of %v: %v, not %v", c.ids, w.Shared, c.want)
		}
		for i, at := range v.Shared {
			if at != i || len(v.Shared) != len(c.ids) {
				t.Fatalf("Shared: %v", v.Shared)
			}
		}
		if !Alike(v, w) || Same(v, w) != slices.Equal(v.Shared, c.want) {
			t.Errorf("Alike: %v, %v", v, w)
		}
	}
}

func TestFilesAndPipes(t *testing.T) { // 29.1: each with its ID and bytes, rising, also those without any
	versions(t, func(t *testing.T, version int) {
		b := start(t, version)
		all := "0123456789abcdefghijklmnopqrstuv"
		for i := range 16 {
			b.store(1, i, all[i])
			b.store(1, 16+i, all[16+i])
		}
		for _, id := range []int{3, 1, 0} {
			slot := b.do(call(1, 5, id, 0)).Result
			b.does(1, 8, 16, slot, 0, 16)
			if id == 1 {
				b.does(1, 8, 16, slot, 16, 16)
			}
			if id == 0 {
				b.does(1, 6, 0, slot)
				b.does(1, 5, slot, id, 1)
			}
			b.does(1, 6, 0, slot)
		}
		b.does(1, 9, 770)
		b.does(1, 9, 1284)
		b.does(1, 2, 2)
		b.does(1, 8, 16, 5, 1, 16)
		b.does(1, 6, 0, 2)
		b.does(1, 6, 0, 3)
		b.does(1, 9, 770)
		b.does(1, 8, 3, 3, 7, 3)
		v := Of(b.s)
		if want := []Thing{{0, ""}, {1, all}, {3, all[:16]}}; !slices.Equal(v.Files, want) {
			t.Errorf("Files: %v, not %v", v.Files, want)
		}
		if want := []Thing{{0, ""}, {1, all[1:17]}, {2, all[7:10]}}; !slices.Equal(v.Pipes, want) {
			t.Errorf("Pipes: %v, not %v", v.Pipes, want)
		}
		b.exits(2, 0)
		if v := Of(b.s); len(v.Pipes) != 2 || v.Pipes[0] != (Thing{1, all[1:17]}) || v.Pipes[1] != (Thing{2, all[7:10]}) {
			t.Errorf("Pipes: %v", v.Pipes)
		}
	})
}

func TestAnswersAreApart(t *testing.T) { // R3: a view is its caller's, spare room too; no two lists of it share any; to ask changes nothing
	versions(t, func(t *testing.T, version int) {
		b := family(t, version)
		want, state := familyView(version), b.s.State()
		v, w := Of(b.s), Of(b.s)
		for _, p := range v.Procs {
			for i := range p.Areas[:cap(p.Areas)] {
				p.Areas[:cap(p.Areas)][i] = Area{9, 9, false}
			}
			for i := range p.Slots[:cap(p.Slots)] {
				p.Slots[:cap(p.Slots)][i] = Slot{9, 9, 9, 9}
			}
		}
		if wiped := plainly(v); !slices.Equal(wiped.Files, want.Files) || !slices.Equal(wiped.Pipes, want.Pipes) || !slices.Equal(wiped.Shared, want.Shared) {
			t.Errorf("Of: %v", v)
		}
		clear(v.Files[:cap(v.Files)])
		if !slices.Equal(v.Pipes, want.Pipes) {
			t.Errorf("Pipes: %v", v.Pipes)
		}
		clear(v.Pipes[:cap(v.Pipes)])
		clear(v.Shared[:cap(v.Shared)])
		clear(v.Procs[:cap(v.Procs)])
		if !identical(w, want) {
			t.Errorf("Of: %v, not %v", w, want)
		}
		is(t, b.s, want)
		if now := b.s.State(); !reflect.DeepEqual(now, state) {
			t.Errorf("State: %v, not %v", now, state)
		}
	})
}

func TestOfStays(t *testing.T) { // R3: a view stays what it was, whatever the system does then
	versions(t, func(t *testing.T, version int) {
		b := family(t, version)
		v := Of(b.s)
		b.store(1, 0, 'z')
		b.does(1, 11, 1, 2, 1)
		b.does(2, 13, 0, 0)
		b.does(1, 8, 2, 2, 0, 2)
		b.does(1, 7, 1, 4, 0, 1)
		b.exits(2, 0)
		if !identical(v, familyView(version)) {
			t.Errorf("Of: %v", v)
		}
	})
}

// ask wants what is told of two views, either way round, and that these stay as they are.
func ask(t *testing.T, a, b View, alike, same bool, where string) {
	t.Helper()
	a0, b0 := plainly(a), plainly(b)
	for range 2 {
		if Alike(a, b) != alike || Alike(b, a) != alike || Same(a, b) != same || Same(b, a) != same || Where(a, b) != where || Where(b, a) != where {
			t.Errorf("Alike %v, Same %v, Where %q: %v, %v", Alike(a, b), Same(a, b), Where(a, b), a, b)
		}
	}
	if !identical(a, a0) || !identical(b, b0) {
		t.Errorf("changed: %v, %v", a, b)
	}
}

// told is what there is to be asked of views that differ there alone.
func told(t *testing.T, a, b View, field string) {
	t.Helper()
	where := map[string]string{"Procs": "procs", "Files": "files", "Pipes": "pipes"}[field]
	ask(t, a, b, field == "Shared", false, where)
}

// changes makes each change of something in a place, of numbers, texts, bools and lists at any depth, one by one, and undoes it behind what is done then; how many there were.
func changes(x reflect.Value, do func()) int {
	n := 0
	try := func(to reflect.Value) {
		was := reflect.New(x.Type()).Elem()
		was.Set(x)
		x.Set(to)
		do()
		x.Set(was)
		n++
	}
	of := func(v any) reflect.Value { return reflect.ValueOf(v).Convert(x.Type()) }
	switch x.Kind() {
	case reflect.Int:
		for _, v := range []int64{x.Int() + 1, x.Int() - 1, x.Int() ^ 1<<40, ^x.Int()} {
			try(of(v))
		}
	case reflect.Uint16:
		try(of(x.Uint() ^ 1))
		try(of(x.Uint() ^ 1<<15))
	case reflect.Bool:
		try(of(!x.Bool()))
	case reflect.String:
		try(of(x.String() + "\x00"))
		if s := x.String(); s != "" {
			try(of(s[1:]))
			try(of(s[:len(s)-1]))
			try(of(s[:len(s)-1] + "~"))
			try(of("~" + s[1:]))
		}
	case reflect.Struct:
		for i := range x.NumField() {
			n += changes(x.Field(i), do)
		}
	case reflect.Array:
		for i := range x.Len() {
			n += changes(x.Index(i), do)
		}
	case reflect.Slice:
		for i := range x.Len() {
			n += changes(x.Index(i), do)
			one := reflect.MakeSlice(x.Type(), 0, 0)
			for j := range x.Len() {
				if j != i {
					one = reflect.Append(one, x.Index(j))
				}
			}
			try(one) // without it
		}
		try(reflect.Append(x.Slice3(0, x.Len(), x.Len()), reflect.Zero(x.Type().Elem())))
		if x.Len() > 1 && !reflect.DeepEqual(x.Index(0).Interface(), x.Index(1).Interface()) {
			other := reflect.AppendSlice(reflect.MakeSlice(x.Type(), 0, 0), x)
			reflect.Swapper(other.Interface())(0, 1)
			try(other)
		}
	}
	return n
}

func TestEachDifference(t *testing.T) { // 29.1, 29.2: whatever is other in one of two views, in any place of it, is told, and where
	versions(t, func(t *testing.T, version int) {
		a := familyView(version)
		for field := range reflect.TypeFor[View]().NumField() {
			name := reflect.TypeFor[View]().Field(field).Name
			b := familyView(version)
			n := changes(reflect.ValueOf(&b).Elem().Field(field), func() { told(t, a, b, name) })
			if n < 10 {
				t.Errorf("%s: %d changes", name, n)
			}
			ask(t, a, b, true, true, "")
		}
	})
}

func TestWhere(t *testing.T) { // 29.2: what comes first of procs, files, pipes; nothing of Shared
	for set := range 16 {
		a, b := familyView(2), familyView(2)
		where := ""
		if set&8 != 0 {
			b.Shared[3] = 0
		}
		if set&4 != 0 {
			b.Pipes[1].Data = "."
			where = "pipes"
		}
		if set&2 != 0 {
			b.Files = b.Files[:1]
			where = "files"
		}
		if set&1 != 0 {
			b.Procs[3].Slots[5].Off = 1
			where = "procs"
		}
		ask(t, a, b, where == "", set == 0, where)
	}
}

func TestNothingAsViews(t *testing.T) { // 29.1, 29.2, R2: a list without an element may be nil or empty
	none := View{Procs: []Proc{}, Files: []Thing{}, Pipes: []Thing{}, Shared: []int{}}
	ask(t, View{}, none, true, true, "")
	ask(t, View{}, View{}, true, true, "")
	ask(t, View{Procs: []Proc{{}}}, View{Procs: []Proc{{Areas: []Area{}, Slots: []Slot{}}}}, true, true, "")
	ask(t, View{}, View{Procs: []Proc{{}}}, false, false, "procs")
	ask(t, none, View{Files: []Thing{{}}}, false, false, "files")
	ask(t, View{}, View{Pipes: []Thing{{}}}, false, false, "pipes")
	ask(t, none, View{Shared: []int{0}}, true, false, "")
}

func TestManyInViews(t *testing.T) { // the bound: views of far numbers, long texts and long lists
	long := func() View {
		v := View{Procs: make([]Proc, 1<<16), Files: make([]Thing, 1<<16), Pipes: make([]Thing, 1<<16), Shared: make([]int, 1<<16)}
		v.Procs[1<<16-1] = Proc{PID: -1 << 63, Parent: 1<<63 - 1, Memory: strings.Repeat("a", 1<<20), Areas: make([]Area, 1<<16), Slots: make([]Slot, 1<<16)}
		v.Files[1<<16-1].Data = strings.Repeat("b", 1<<20)
		return v
	}
	a, b := long(), long()
	ask(t, a, b, true, true, "")
	b.Shared[1<<16-1] = -1 << 63
	ask(t, a, b, true, false, "")
	b.Pipes[1<<16-1].ID = 1<<63 - 1
	ask(t, a, b, false, false, "pipes")
	b.Files[1<<16-1].Data = strings.Repeat("b", 1<<20-1) + "a"
	ask(t, a, b, false, false, "files")
	b.Procs[1<<16-1].Slots[1<<16-1].Off = 1
	ask(t, a, b, false, false, "procs")
}
