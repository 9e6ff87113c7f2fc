package snap

import (
	"fmt"
	"math"
	"reflect"
	"slices"
	"strings"
	"testing"

	"imago/api"
	"imago/areas"
	"imago/check"
	"imago/desc"
	"imago/files"
	"imago/lang"
	"imago/opens"
	"imago/pages"
	"imago/pipes"
	"imago/spans"
	"imago/sys"
	"imago/types"
	"imago/vals"
	"imago/wire"
)

// versions runs a test of either version.
func versions(t *testing.T, test func(t *testing.T, version int)) {
	t.Run("1", func(t *testing.T) { test(t, 1) })
	t.Run("2", func(t *testing.T) { test(t, 2) })
}

// noVersions are numbers that are no version.
var noVersions = []int{0, 3, -1, 255, 256, 257, 258, 1 << 32, 1<<32 + 1, math.MinInt, math.MaxInt}

// identical tells whether two states are the same; a list without an element may be nil or empty.
func identical(a, b sys.State) bool {
	plainly := func(s sys.State) sys.State {
		s.Files = slices.Concat(s.Files)
		for i, f := range s.Files {
			s.Files[i].Blocks = slices.Concat(f.Blocks)
		}
		s.Procs, s.Pipes, s.Pages = slices.Concat(s.Procs), slices.Concat(s.Pipes), slices.Concat(s.Pages)
		s.Desc, s.Areas = slices.Concat(s.Desc), slices.Concat(s.Areas)
		s.Opens, s.Slots, s.Spans = slices.Concat(s.Opens), slices.Concat(s.Slots), slices.Concat(s.Spans)
		return s
	}
	return reflect.DeepEqual(plainly(a), plainly(b))
}

// schema is a version's schema.
func schema(t *testing.T, version int) types.Type {
	t.Helper()
	x, e := types.Parse(of2(version, textOf1, textOf2))
	if e != api.OK {
		t.Fatal(e)
	}
	return x
}

// isState wants that those are a state's bytes, with the value that stands in them, and that they are read.
func isState(t *testing.T, s sys.State, b string) {
	t.Helper()
	w, e := wire.Read(b)
	if e != api.OK {
		t.Fatalf("wire.Read(%q): %v", b, e)
	}
	if v, e := Value(s); !vals.Same(v, w.Value) || e != api.OK {
		t.Fatalf("Value(%v): %v, %v", s, v, e)
	}
	if got, e := Bytes(s); got != b || e != api.OK {
		t.Fatalf("Bytes(%v): %q, %v, not %q", s, got, e, b)
	}
	if got, e := Read(b); !identical(got, plainRead(s)) || e != api.OK {
		t.Fatalf("Read(%q): %v, %v, not %v", b, got, e, s)
	}
	if s.Version == 1 && len(b) > Most() {
		t.Fatalf("%d bytes, Most %d", len(b), Most())
	}
}

// isNone wants that those bytes are no state's.
func isNone(t *testing.T, b string, want api.Errno) {
	t.Helper()
	if s, e := Read(b); !reflect.DeepEqual(s, sys.State{}) || e != want {
		t.Errorf("Read(%.400q): %v, %v, not %v", b, s, e, want)
	}
}

// refuses wants that a state has no value and no bytes.
func refuses(t *testing.T, s sys.State, want api.Errno) {
	t.Helper()
	for range 2 {
		if v, e := Value(s); !reflect.DeepEqual(v, vals.Value{}) || e != want {
			t.Errorf("Value(%.400s): %v, %v, not %v", fmt.Sprint(s), v, e, want)
		}
		if b, e := Bytes(s); b != "" || e != want {
			t.Errorf("Bytes(%.400s): %q, %v, not %v", fmt.Sprint(s), b, e, want)
		}
	}
}

func TestSchema(t *testing.T) { // 30.1: the schemas' texts; that of version 2 is what the script makes of the other one
	versions(t, func(t *testing.T, version int) {
		x, e := Schema(version)
		text, f := types.Print(x)
		if text != of2(version, textOf1, textOf2) || e != api.OK || f != api.OK {
			t.Errorf("Schema(%d): %q, %v, %v", version, text, e, f)
		}
	})
	l, bad := lang.Parse(Script)
	to, _, e := check.Make(l, schema(t, 1))
	if second, _ := Schema(2); bad != 0 || e != api.OK || !types.Same(to, second) {
		t.Errorf("the script: %d, %v, %v", bad, e, to)
	}
	for _, version := range noVersions {
		if x, e := Schema(version); !reflect.DeepEqual(x, types.Type{}) || e != api.ErrArg {
			t.Errorf("Schema(%d): %v, %v", version, x, e)
		}
	}
}

// wipe makes a type another one, with the spare room of its lists.
func wipe(t types.Type) {
	for _, kid := range t.Kids {
		wipe(kid)
	}
	clear(t.Names[:cap(t.Names)])
	clear(t.Kids[:cap(t.Kids)])
}

func TestSchemasAreApart(t *testing.T) { // R3: a schema is its caller's
	versions(t, func(t *testing.T, version int) {
		for range 3 {
			x, _ := Schema(version)
			if !types.Same(x, schema(t, version)) {
				t.Fatalf("Schema(%d): %v", version, x)
			}
			wipe(x)
		}
		s := throw(5).state(version)
		isState(t, s, plainBytes(s))
	})
}

func TestScript(t *testing.T) { // the script's text, as the chapter tells it: each line ended by a 10
	lines := []string{
		"share fds opens open kind obj off",
		"rename fds slots",
		"each areas",
		"  add prot i8 3",
		"end",
		"sort areas pid first",
		"rename areas spans",
	}
	if Script != strings.Join(lines, "\n")+"\n" {
		t.Errorf("Script: %q", Script)
	}
	l, bad := lang.Parse(Script)
	if s, e := lang.Print(l); s != Script || bad != 0 || e != api.OK {
		t.Errorf("Print: %q, %d, %v", s, bad, e)
	}
}

func integer(n int) vals.Value { return vals.Value{Kind: types.Int, N: n} }

func listOf(kids ...vals.Value) vals.Value { return vals.Value{Kind: types.List, Kids: kids} }

// row is a Rec of numbers, and of what stands behind them.
func row(numbers []int, behind ...vals.Value) vals.Value {
	v := vals.Value{Kind: types.Rec}
	for _, n := range numbers {
		v.Kids = append(v.Kids, integer(n))
	}
	v.Kids = append(v.Kids, behind...)
	return v
}

// counting is a state of a version with tables of both, whose numbers are all unlike.
func counting(version int) sys.State {
	return sys.State{
		Version: version,
		Procs: []sys.Proc{
			{PID: 3, Parent: 5, Program: 7, Status: 9, CPU: api.CPU{R: [8]uint16{1000, 1001, 1002, 1003, 1004, 1005, 1006, 1007}, PC: 999}},
			{PID: 2, Parent: 4, Program: 6, Ended: true, Status: 8, CPU: api.CPU{R: [8]uint16{65535, 1}, PC: 65535}},
		},
		Files: []files.Info{{ID: 92, Size: 91}, {ID: 90, Size: 89, Blocks: []int{88, 87}}},
		Pipes: []pipes.Info{{ID: 95, Data: "abc"}, {ID: 94}},
		Pages: []pages.Entry{{PID: 65, Page: 64, Frame: 63}, {PID: 62, Page: 61, Frame: 60}},
		Desc:  []desc.Entry{{PID: 29, Slot: 28, Kind: 27, Obj: 26, Off: 25}, {PID: 24, Slot: 23, Kind: 22, Obj: 21, Off: 20}},
		Areas: []areas.Area{{PID: 39, First: 38, Count: 37}, {PID: 36, First: 35, Count: 34}},
		Opens: []opens.Open{{ID: 70, Kind: 77, Obj: 76, Off: 75}, {ID: -1, Kind: 74, Obj: 73, Off: 72}, {ID: 71, Kind: 79, Obj: 80, Off: 81}},
		Slots: []opens.Slot{{PID: 49, Slot: 48, Open: 71}, {PID: 47, Slot: 46, Open: 70}, {PID: 45, Slot: 44, Open: -1}, {PID: 43, Slot: 42, Open: 71}},
		Spans: []spans.Span{{PID: 59, First: 58, Count: 57, Prot: 56}, {PID: 55, First: 54, Count: 53, Prot: 52}},
	}
}

// countingValue is its value, as the chapter's words tell it.
func countingValue(version int) vals.Value {
	regs := func(l ...int) vals.Value { return listOf(row(l).Kids...) }
	procs := listOf(
		row([]int{3, 5, 7, 0, 9, 999}, regs(1000, 1001, 1002, 1003, 1004, 1005, 1006, 1007)),
		row([]int{2, 4, 6, 1, 8, 65535}, regs(65535, 1, 0, 0, 0, 0, 0, 0)))
	first := listOf(row([]int{65, 64, 63}), row([]int{62, 61, 60}))
	files := listOf(row([]int{92, 91}, listOf()), row([]int{90, 89}, listOf(integer(88), integer(87))))
	pipes := listOf(row([]int{95}, vals.Value{Kind: types.Text, S: "abc"}), row([]int{94}, vals.Value{Kind: types.Text}))
	if version == 1 {
		fds := listOf(row([]int{29, 28, 27, 26, 25}), row([]int{24, 23, 22, 21, 20}))
		areas := listOf(row([]int{39, 38, 37}), row([]int{36, 35, 34}))
		return row(nil, procs, fds, areas, first, files, pipes)
	}
	slots := listOf(row([]int{49, 48, 2}), row([]int{47, 46, 1}), row([]int{45, 44, 0}), row([]int{43, 42, 2}))
	spans := listOf(row([]int{59, 58, 57, 56}), row([]int{55, 54, 53, 52}))
	objects := listOf(row([]int{74, 73, 72}), row([]int{77, 76, 75}), row([]int{79, 80, 81}))
	return row(nil, procs, slots, spans, first, files, pipes, objects)
}

func TestValue(t *testing.T) { // 30.1: the tables of the version, each in its order, field by field; objects in the order of IDs, a slot's open is its object's place
	versions(t, func(t *testing.T, version int) {
		s := counting(version)
		v, e := Value(s)
		if !vals.Same(v, countingValue(version)) || e != api.OK {
			t.Errorf("Value: %v, %v, not %v", v, e, countingValue(version))
		}
		isState(t, s, plainBytes(s))
	})
}

func TestRead(t *testing.T) { // 30.2: the state, field by field; an object's ID is its place
	versions(t, func(t *testing.T, version int) {
		b, e := wire.Bytes(wire.State{Version: version, Type: schema(t, version), Value: countingValue(version)})
		if e != api.OK {
			t.Fatal(e)
		}
		want := counting(version)
		if version == 1 {
			want.Opens, want.Slots, want.Spans = nil, nil, nil
		} else {
			want.Desc, want.Areas = nil, nil
			want.Opens = []opens.Open{{ID: 0, Kind: 74, Obj: 73, Off: 72}, {ID: 1, Kind: 77, Obj: 76, Off: 75}, {ID: 2, Kind: 79, Obj: 80, Off: 81}}
			for i, at := range []int{2, 1, 0, 2} {
				want.Slots[i].Open = at
			}
		}
		if s, e := Read(b); !identical(s, want) || e != api.OK {
			t.Errorf("Read: %v, %v, not %v", s, e, want)
		}
	})
}

func TestAgain(t *testing.T) { // R6: the same call tells the same, whatever was asked for ahead of it
	s, x := counting(1), counting(2)
	b, c := plainBytes(s), plainBytes(x)
	for range 3 {
		isState(t, s, b)
		isState(t, x, c)
		isNone(t, b[1:], api.ErrForm)
		refuses(t, sys.State{Version: 3}, api.ErrArg)
	}
}

func TestNothing(t *testing.T) { // 30.1, 30.2, R2: a state without anything; lists without an element may be nil or empty
	versions(t, func(t *testing.T, version int) {
		empty := strings.Repeat("\x03\x00", of2(version, 6, 7))
		b := header(version) + "\x04" + string(rune(len(empty)/2)) + empty
		isState(t, sys.State{Version: version}, b)
		isState(t, sys.State{
			Version: version, Procs: []sys.Proc{}, Files: []files.Info{}, Pipes: []pipes.Info{}, Pages: []pages.Entry{}, Desc: []desc.Entry{},
			Areas: []areas.Area{}, Opens: []opens.Open{}, Slots: []opens.Slot{}, Spans: []spans.Span{},
		}, b)
		s := sys.State{Version: version, Files: []files.Info{{ID: 1, Blocks: []int{}}}}
		isState(t, s, plainBytes(s))
	})
}

func TestNoVersion(t *testing.T) { // 30.1, R4: ErrArg, whatever else is wrong
	for _, version := range noVersions {
		refuses(t, sys.State{Version: version}, api.ErrArg)
		refuses(t, counting(version), api.ErrArg)
		refuses(t, sys.State{Version: version, Procs: make([]sys.Proc, 7), Pages: []pages.Entry{{PID: -1}}}, api.ErrArg)
	}
}

// tables are the names of a version's tables in a State, and how many rows each may have.
func tables(version int) map[string]int {
	if version == 1 {
		return map[string]int{"Procs": 6, "Desc": 36, "Areas": 24, "Pages": 96, "Files": 4, "Pipes": 3}
	}
	return map[string]int{"Procs": 6, "Slots": 36, "Spans": 24, "Pages": 96, "Files": 4, "Pipes": 3, "Opens": 36}
}

// fill makes a table one of n rows, of numbers 0, but for objects' IDs: these are unlike ones, from 0 on.
func fill(s *sys.State, name string, n int) {
	f := reflect.ValueOf(s).Elem().FieldByName(name)
	f.Set(reflect.MakeSlice(f.Type(), n, n))
	if name == "Opens" {
		for i := range s.Opens {
			s.Opens[i].ID = i
		}
	}
}

func TestLongTables(t *testing.T) { // 30.1: as many rows as a list may have are right, one more is ErrForm, and so are very many
	versions(t, func(t *testing.T, version int) {
		for name, most := range tables(version) {
			for n := range most + 1 {
				s := sys.State{Version: version, Opens: make([]opens.Open, version-1)}
				fill(&s, name, n)
				if n == 0 && name == "Opens" {
					continue
				}
				isState(t, s, plainBytes(s))
			}
			for _, n := range []int{most + 1, most + 2, 96, 97, 98, 255, 256, 256 + most, 512, 1 << 16} {
				if n > most {
					s := sys.State{Version: version, Opens: make([]opens.Open, version-1)}
					fill(&s, name, n)
					refuses(t, s, api.ErrForm)
				}
			}
		}
		for n := range 5 {
			s := sys.State{Version: version, Files: []files.Info{{ID: 1, Blocks: make([]int, n)}}}
			isState(t, s, plainBytes(s))
		}
		for _, n := range []int{5, 6, 96, 97, 256, 260, 1 << 16} {
			refuses(t, sys.State{Version: version, Files: []files.Info{{}, {ID: 1, Blocks: make([]int, n)}}}, api.ErrForm)
		}
		for n := range 17 {
			s := sys.State{Version: version, Pipes: []pipes.Info{{Data: strings.Repeat("\x80", n)}}}
			isState(t, s, plainBytes(s))
		}
		for _, n := range []int{17, 18, 255, 256, 272, 1 << 16} {
			refuses(t, sys.State{Version: version, Pipes: []pipes.Info{{}, {Data: strings.Repeat("\x80", n)}}}, api.ErrForm)
		}
	})
}

func TestTooLongForAWhile(t *testing.T) { // the bound: tables of very many rows are ErrForm without much ado
	versions(t, func(t *testing.T, version int) {
		for name := range tables(version) {
			s := sys.State{Version: version, Opens: make([]opens.Open, version-1)}
			fill(&s, name, 1<<20)
			refuses(t, s, api.ErrForm)
		}
		refuses(t, sys.State{Version: version, Files: []files.Info{{Blocks: make([]int, 1<<22)}}}, api.ErrForm)
		refuses(t, sys.State{Version: version, Pipes: []pipes.Info{{Data: strings.Repeat("a", 1<<22)}}}, api.ErrForm)
	})
}

// integers are all ints in a place, at any depth, by their names.
func integers(x reflect.Value, name string, do func(name string, n reflect.Value)) {
	switch x.Kind() {
	case reflect.Int:
		do(name, x)
	case reflect.Struct:
		for i := range x.NumField() {
			integers(x.Field(i), name+"."+x.Type().Field(i).Name, do)
		}
	case reflect.Slice:
		for i := range x.Len() {
			integers(x.Index(i), name, do)
		}
	}
}

func TestNumbers(t *testing.T) { // 30.1: a number has its field's bits: from 0 to 255; others are ErrForm. Objects' IDs have no field
	versions(t, func(t *testing.T, version int) {
		s := counting(version)
		asked := map[string]bool{}
		for name := range tables(version) {
			integers(reflect.ValueOf(&s).Elem().FieldByName(name), name, func(name string, n reflect.Value) {
				if name == "Opens.ID" || name == "Slots.Open" {
					return
				}
				asked[name] = true
				was := n.Int()
				for _, v := range []int64{0, 1, 127, 128, 255} {
					n.SetInt(v)
					isState(t, s, plainBytes(s))
				}
				for _, v := range []int64{-1, 256, 257, -255, -256, 65535, 65536, 1 << 32, 1<<32 + 1, math.MinInt64, math.MaxInt64} {
					n.SetInt(v)
					refuses(t, s, api.ErrForm)
				}
				n.SetInt(was)
			})
		}
		if len(asked) != of2(version, 19, 20) {
			t.Errorf("%d fields: %v", len(asked), asked)
		}
		isState(t, s, plainBytes(s))
	})
}

func TestOtherTables(t *testing.T) { // 30.1: the tables of the other version stand nowhere, whatever they have
	versions(t, func(t *testing.T, version int) {
		s := counting(version)
		want := plainBytes(s)
		for name, most := range tables(3 - version) {
			if _, own := tables(version)[name]; own {
				continue
			}
			for _, n := range []int{0, 1, most, most + 1, 1000} {
				fill(&s, name, n)
				isState(t, s, want)
			}
			f := reflect.ValueOf(&s).Elem().FieldByName(name)
			integers(f, name, func(_ string, n reflect.Value) { n.SetInt(-1) })
			isState(t, s, want)
		}
	})
}

func TestObjects(t *testing.T) { // 30.1: objects stand in the order of their IDs, whatever these are; a slot that names none is ErrForm
	far := []int{math.MaxInt, math.MinInt, 0, 65536, -1, 1 << 32, 35, 36}
	s := sys.State{Version: 2}
	for i, id := range far {
		s.Opens = append(s.Opens, opens.Open{ID: id, Kind: i})
	}
	for _, id := range []int{0, -1, 35, math.MaxInt, math.MinInt, 65536, 0, math.MaxInt, 36, 1 << 32} {
		s.Slots = append(s.Slots, opens.Slot{Open: id})
	}
	isState(t, s, plainBytes(s))
	r, _ := Read(plainBytes(s))
	var kinds, places []int
	for _, o := range r.Opens {
		kinds = append(kinds, o.Kind)
	}
	for _, x := range r.Slots {
		places = append(places, x.Open)
	}
	if !slices.Equal(kinds, []int{1, 4, 2, 6, 7, 3, 5, 0}) || !slices.Equal(places, []int{2, 1, 3, 7, 0, 5, 2, 7, 4, 6}) {
		t.Errorf("Read: %v", r)
	}
	for _, id := range []int{1, 2, 34, 37, -2, 65535, 65537, math.MaxInt - 1, math.MinInt + 1} {
		for at := range s.Slots {
			wrong := s
			wrong.Slots = slices.Clone(s.Slots)
			wrong.Slots[at].Open = id
			refuses(t, wrong, api.ErrForm)
		}
	}
	refuses(t, sys.State{Version: 2, Slots: []opens.Slot{{}}}, api.ErrForm)
	s = sys.State{Version: 2, Opens: []opens.Open{{ID: 1}, {ID: 0}, {ID: 7}}} // that no slot names
	isState(t, s, plainBytes(s))
}

func TestObjectsOfOneID(t *testing.T) { // 30.1: of one ID they stand as they stood; a slot's open is the first one's place
	s := sys.State{Version: 2, Slots: []opens.Slot{{Open: 5}, {Open: 3}, {Open: 9}}}
	want := sys.State{Version: 2, Slots: []opens.Slot{{Open: 1}, {Open: 0}, {Open: 31}}}
	s.Opens = append(s.Opens, opens.Open{ID: 9, Kind: 200}, opens.Open{ID: 3, Kind: 100})
	want.Opens = append(want.Opens, opens.Open{ID: 0, Kind: 100})
	for i := range 30 {
		s.Opens = append(s.Opens, opens.Open{ID: 5, Kind: i})
		want.Opens = append(want.Opens, opens.Open{ID: 1 + i, Kind: i})
	}
	want.Opens = append(want.Opens, opens.Open{ID: 31, Kind: 200})
	b, e := Bytes(s)
	if r, f := Read(b); e != api.OK || f != api.OK || !identical(r, want) {
		t.Errorf("Read: %v, %v, %v, not %v", r, e, f, want)
	}
}

func TestKeepsNothing(t *testing.T) { // R3: a state that is handed in is not changed and not kept, spare room too
	versions(t, func(t *testing.T, version int) {
		s, was := counting(version), counting(version)
		s.Opens = append(s.Opens, opens.Open{ID: 99})[:3]
		s.Files[1].Blocks = append(s.Files[1].Blocks, 99)[:2]
		for range 2 {
			v, _ := Value(s)
			b, _ := Bytes(s)
			if !identical(s, was) || s.Opens[:4][3].ID != 99 || s.Files[1].Blocks[:3][2] != 99 {
				t.Fatalf("%v, not %v", s, was)
			}
			clear(v.Kids[len(v.Kids)-1].Kids)
			clear(v.Kids[0].Kids[0].Kids[6].Kids)
			clear(v.Kids[4].Kids[1].Kids[2].Kids)
			clear(v.Kids)
			if b != plainBytes(was) {
				t.Fatalf("Bytes: %q", b)
			}
		}
		v, _ := Value(s)
		clear(s.Procs)
		clear(s.Files[1].Blocks)
		clear(s.Files)
		clear(s.Opens)
		clear(s.Slots)
		if !vals.Same(v, countingValue(version)) {
			t.Errorf("Value: %v", v)
		}
	})
}

func TestAnswersAreApart(t *testing.T) { // R3: no two lists of one answer share any, nor two answers
	versions(t, func(t *testing.T, version int) {
		s := counting(version)
		s.Files = append(s.Files, files.Info{ID: 80, Blocks: []int{1, 2, 3}}, files.Info{ID: 81, Blocks: []int{4}})
		b, want := plainBytes(s), plainRead(s)
		r, e := Read(b)
		if e != api.OK {
			t.Fatal(e)
		}
		for i, f := range r.Files {
			all := append(f.Blocks, 9, 9, 9)
			clear(all[:cap(all)])
			r.Files[i].Blocks = want.Files[i].Blocks
			if !identical(r, want) {
				t.Errorf("Read: %v, not %v", r, want)
			}
		}
		x := reflect.ValueOf(&r).Elem()
		for i := range x.NumField() {
			if f := x.Field(i); f.Kind() == reflect.Slice {
				f.Slice(0, f.Cap()).Clear()
				f.Set(reflect.ValueOf(&want).Elem().Field(i))
				if !identical(r, want) {
					t.Errorf("Read: %v, not %v", r, want)
				}
			}
		}
		isState(t, s, b)
		v, _ := Value(s)
		if whole, _ := Value(s); !spoil(&v, whole) {
			t.Error("lists of a value share memory")
		}
	})
}

// spoil spoils each list of a value, from the last ones on, spare room too, and tells whether all ahead of it was as it is in another one still.
func spoil(v *vals.Value, whole vals.Value) bool {
	for i := range v.Kids {
		if !vals.Same(v.Kids[i], whole.Kids[i]) || !spoil(&v.Kids[i], whole.Kids[i]) {
			return false
		}
	}
	clear(v.Kids[:cap(v.Kids)])
	return true
}

func TestReadWrong(t *testing.T) { // 30.2: wire.Read's errors, with nothing
	versions(t, func(t *testing.T, version int) {
		b := plainBytes(counting(version))
		for n := range len(b) {
			isNone(t, b[:n], api.ErrForm)
			isNone(t, b[n+1:], api.ErrForm)
		}
		for c := range 256 {
			isNone(t, b+string([]byte{byte(c)}), api.ErrForm)
		}
		isNone(t, b+b, api.ErrForm)
		isNone(t, strings.Repeat("a", 6000), api.ErrForm)
		isNone(t, strings.Repeat("a", 6001), api.ErrLong)
		isNone(t, b+strings.Repeat("\x00", 6001-len(b)), api.ErrLong)
		isNone(t, strings.Repeat(b, 1000), api.ErrLong)
		isNone(t, b+strings.Repeat("\x00", 6000-len(b)), api.ErrForm)
	})
}

func TestReadOtherVersions(t *testing.T) { // 30.2: ErrForm, if the version is not 1 or 2, or the type is not that version's
	versions(t, func(t *testing.T, version int) {
		b := []byte(plainBytes(counting(version)))
		for c := range 256 {
			b[2] = byte(c)
			if c != version {
				isNone(t, string(b), api.ErrForm)
			}
		}
		text := of2(version, textOf1, textOf2)
		for _, change := range [][2]string{
			{"procs", "proc"}, {"procs:l6", "procs:l7"}, {"l6(", "l5("}, {"pid:i8,up", "up:i8,pid"}, {"pc:i16", "pc:i32"}, {"regs:l8", "regs:l9"}, {"data:t16", "data:t17"}, {"up:i8", "up:i16"},
			{"pages:l96", "pages:l95"}, {"r(procs", "r(n:i8,procs"}, {"size:i8,", ""}, {",pipes:l3(r(id:i8,data:t16))", ""}, {"files:", "filez:"}, {"blocks:l4(i8)", "blocks:t4"},
		} {
			other, e := types.Parse(strings.Replace(text, change[0], change[1], 1))
			if e != api.OK || types.Same(other, schema(t, version)) {
				t.Fatal(change, e)
			}
			v, _ := vals.Default(other)
			w, e := wire.Bytes(wire.State{Version: version, Type: other, Value: v})
			if e != api.OK {
				t.Fatal(e)
			}
			isNone(t, w, api.ErrForm)
		}
		for _, other := range []string{"i8", "t16", "l6(i8)", "r(procs:i8)", of2(version, textOf2, textOf1)} {
			x, _ := types.Parse(other)
			v, _ := vals.Default(x)
			w, e := wire.Bytes(wire.State{Version: version, Type: x, Value: v})
			if e != api.OK {
				t.Fatal(e)
			}
			isNone(t, w, api.ErrForm)
		}
	})
}

// changed are the bytes of the counting state, whose value was changed.
func changed(t *testing.T, version int, change func(v vals.Value)) string {
	t.Helper()
	v := countingValue(version)
	change(v)
	b, e := wire.Bytes(wire.State{Version: version, Type: schema(t, version), Value: v})
	if e != api.OK {
		t.Fatal(e)
	}
	return b
}

func TestReadWrongProcs(t *testing.T) { // 30.2: ErrForm, if a Proc's regs are not 8, or its ended not 0 or 1
	versions(t, func(t *testing.T, version int) {
		for at := range 2 {
			for n := range 8 {
				isNone(t, changed(t, version, func(v vals.Value) {
					regs := &v.Kids[0].Kids[at].Kids[6]
					regs.Kids = regs.Kids[:n]
				}), api.ErrForm)
			}
			for n := range 256 {
				b := changed(t, version, func(v vals.Value) { v.Kids[0].Kids[at].Kids[3].N = n })
				if n > 1 {
					isNone(t, b, api.ErrForm)
					continue
				}
				s := counting(version)
				s.Procs[at].Ended = n == 1
				isState(t, s, b)
			}
		}
	})
}

func TestReadWrongSlots(t *testing.T) { // 30.2: ErrForm, if a slot's open is no place of opens
	for objects := range 4 {
		for at := range 4 {
			for _, n := range []int{0, 1, 2, 3, 4, 35, 36, 255, 256, 257, 65535} {
				b := changed(t, 2, func(v vals.Value) {
					v.Kids[6].Kids = v.Kids[6].Kids[:objects]
					for i := range 4 {
						v.Kids[1].Kids[i].Kids[2].N = 0
					}
					v.Kids[1].Kids[at].Kids[2].N = n
				})
				if n >= objects || objects == 0 {
					isNone(t, b, api.ErrForm)
					continue
				}
				s, e := Read(b)
				if e != api.OK || len(s.Opens) != objects || s.Slots[at].Open != n {
					t.Fatalf("Read: %v, %v", s, e)
				}
				isState(t, s, b)
			}
		}
	}
}

func TestReadAnyNumbers(t *testing.T) { // 30.2: nothing else is asked of a state: all its numbers may be any ones
	versions(t, func(t *testing.T, version int) {
		for _, n := range []int64{0, 255} {
			s := counting(version)
			for name := range tables(version) {
				integers(reflect.ValueOf(&s).Elem().FieldByName(name), name, func(name string, x reflect.Value) {
					if name != "Opens.ID" && name != "Slots.Open" {
						x.SetInt(n)
					}
				})
			}
			isState(t, s, plainBytes(s))
		}
	})
}

// fullest is a state with full tables, all of whose texts are as long as they may be.
func fullest(version int) sys.State {
	s := sys.State{Version: version}
	for name, most := range tables(version) {
		fill(&s, name, most)
	}
	for i := range s.Files {
		s.Files[i].Blocks = make([]int, 4)
	}
	for i := range s.Pipes {
		s.Pipes[i].Data = strings.Repeat("\xff", 16)
	}
	return s
}

func TestMost(t *testing.T) { // 30.3, 30.5: the bytes of a state that is full, and no more; at most MaxBytes. A full state of version 2 has bytes, too
	const (
		procs = 2 + 6*(2+5*2+3+2+8*3)
		fds   = 2 + 36*(2+5*2)
		areas = 2 + 24*(2+3*2)
		pages = 2 + 96*(2+3*2)
		files = 2 + 4*(2+2*2+2+4*2)
		pipes = 2 + 3*(2+2+2+16)
	)
	want := 5 + len(textOf1) + 2 + procs + fds + areas + pages + files + pipes
	if Most() != want || want > api.MaxBytes || Most() != want {
		t.Errorf("Most: %d, not %d", Most(), want)
	}
	versions(t, func(t *testing.T, version int) {
		s := fullest(version)
		b := plainBytes(s)
		isState(t, s, b)
		if version == 1 && len(b) != want {
			t.Errorf("%d bytes, not %d", len(b), want)
		}
		for name, most := range tables(version) {
			x := fullest(version)
			fill(&x, name, most-1)
			if name == "Opens" {
				fill(&x, "Slots", 0)
			}
			if less, e := Bytes(x); e != api.OK || len(less) >= len(b) {
				t.Errorf("%s: %d bytes, %v", name, len(less), e)
			}
		}
	})
}
