package rest

import (
	"slices"
	"strconv"
	"strings"
	"testing"

	"imago/abs"
	"imago/api"
	"imago/areas"
	"imago/asm"
	"imago/desc"
	"imago/files"
	"imago/kern"
	"imago/opens"
	"imago/pages"
	"imago/pipes"
	"imago/snap"
	"imago/spans"
	"imago/sys"
	"imago/types"
	"imago/vals"
	"imago/wire"
)

// family is a box of a system with some of all: two processes, a file of two blocks with the same bytes and one of one, two frames with the same bytes, a pipe.
func family(t *testing.T) *box {
	t.Helper()
	lines := "set r1 1, set r2 0, call 5, set r1 2, call 5, call 9, call 2, " +
		"set r2 0, set r1 5, set r3 3, call 8, set r1 2, call 8, set r1 3, set r3 16, call 8, " + // write
		"set r4 4, store r4 r3, set r4 20, store r4 r3, call 12"
	s, bad := asm.Read(strings.ReplaceAll(lines, ", ", "\n"))
	if bad != 0 {
		t.Fatal(bad)
	}
	b := start(t, 12, s, "\x00")
	for range 21 {
		if e := b.s.Step(1); e.Kind != sys.Ran && e.Kind != sys.Done {
			t.Fatal(e)
		}
	}
	if st := b.s.State(); len(st.Procs) != 2 || len(st.Files) != 2 || len(st.Files[1].Blocks) != 2 || len(st.Pipes) != 1 || len(st.Pages) != 2 || len(st.Desc) != 12 || len(st.Areas) != 3 {
		t.Fatalf("%v", st)
	}
	return b
}

// moved is the system of version 2 that the script makes of that in a box.
func (b *box) moved() *sys.System {
	b.t.Helper()
	now, e := Whole(b.p, b.s, snap.Script)
	if e != api.OK || now == nil {
		b.t.Fatalf("Whole: %v", e)
	}
	return now
}

// plain are the bytes of version 1 of the least value.
func plain(t *testing.T) string {
	t.Helper()
	x := schema(t, 1)
	v, _ := vals.Default(x)
	return written(t, wire.State{Version: 1, Type: x, Value: v})
}

func TestMove(t *testing.T) { // 31.1: the bytes of a system, with which a system is built
	b := family(t)
	m, e := Move(b.bytes(), snap.Script, 10000)
	if e != api.OK {
		t.Fatal(e)
	}
	st, e := snap.Read(m)
	if e != api.OK || !identical(st, plainState(b.s.State())) {
		t.Errorf("Read: %v, %v", st, e)
	}
	moves(t, b.bytes(), snap.Script, m, 5+12+2*3)
}

func TestBytesThatAreWrong(t *testing.T) { // 31.1: wire.Read's error, ahead of all else; then ErrForm
	x, second := schema(t, 1), schema(t, 2)
	v, _ := vals.Default(x)
	w, _ := vals.Default(second)
	for _, script := range []string{snap.Script, "", "foo", "drop files", "drop foo"} {
		stays(t, plain(t)+strings.Repeat("\x00", api.MaxBytes), script, api.ErrLong)
		stays(t, strings.Repeat("\x00", api.MaxBytes+1), script, api.ErrLong)
		stays(t, strings.Repeat("\x00", api.MaxBytes), script, api.ErrForm)
		for _, b := range []string{"", "im", "im\x01", plain(t) + "\x00", plain(t)[1:], plain(t)[:len(plain(t))-1]} {
			stays(t, b, script, api.ErrForm)
		}
		for _, version := range []int{0, 1, 2, 3, 254, 255} {
			if version != 1 {
				stays(t, written(t, wire.State{Version: version, Type: x, Value: v}), script, api.ErrForm)
			}
			stays(t, written(t, wire.State{Version: version, Type: second, Value: w}), script, api.ErrForm)
		}
	}
}

func TestOtherTypes(t *testing.T) { // 31.1: ErrForm, if the type is another one than the schema of version 1, in whatever, though the script would make of it that of version 2
	text, _ := types.Print(schema(t, 1))
	for _, c := range [][2]string{
		{"procs:l6(", "procs:l5("},
		{"pid:i8,up:i8", "up:i8,pid:i8"},
		{"l36(r(pid:i8,slot:i8,kind:i8,", "l36(r(pid:i8,slot:i8,kind:i16,"},
		{"areas:", "parts:"},
		{"frame:i8", "frame:i8,more:i8"},
		{"data:t16", "data:t15"},
		{",pipes:l3(r(id:i8,data:t16))", ""},
		{"pipes:l3(r(id:i8,data:t16)))", "pipes:l3(r(id:i8,data:t16)),more:i8)"},
	} {
		other, e := types.Parse(strings.Replace(text, c[0], c[1], 1))
		if e != api.OK || types.Same(other, schema(t, 1)) {
			t.Fatalf("%v: %v", c, e)
		}
		v, _ := vals.Default(other)
		b := written(t, wire.State{Version: 1, Type: other, Value: v})
		stays(t, b, snap.Script, api.ErrForm)
		for _, back := range []string{"rename parts areas\n", "drop more\n", "each pages\ndrop more\nend\n"} {
			stays(t, b, back+snap.Script, api.ErrForm)
		}
	}
}

func TestScriptsThatAreWrong(t *testing.T) { // 31.1: ErrForm: a line is wrong, or a statement, or another type comes of it; ahead of what fuel there is
	for _, script := range []string{
		"",
		"foo",
		"drop files",
		"drop foo",
		"rename fds slots",
		snap.Script + "foo",
		snap.Script + "end",
		snap.Script + "each spans",
		snap.Script + "drop foo",
		snap.Script + "rename areas spans",
		snap.Script + "rename spans areas",
		snap.Script + "drop pipes",
		snap.Script + "add more i8 0",
		snap.Script + "each pages\nwiden frame 16\nend",
		snap.Script + snap.Script,
		snap.Script + strings.Repeat("sort spans pid\n", 55),
		snap.Script[1:],
		strings.Replace(snap.Script, "opens open kind obj off", "opens open kind off obj", 1),
		strings.Replace(snap.Script, "opens open kind obj off", "opens open kind obj", 1),
		strings.Replace(snap.Script, "opens open", "open opens", 1),
		strings.Replace(snap.Script, "prot i8", "prot i16", 1),
		strings.Replace(snap.Script, "prot i8 3", "prot i8 256", 1),
		strings.Replace(snap.Script, "end\n", "", 1),
		strings.Repeat("a", 1<<20),
		strings.Repeat("\n", 1<<16) + "foo",
		"\x00",
	} {
		stays(t, plain(t), script, api.ErrForm)
	}
}

func TestOtherScripts(t *testing.T) { // 31.1: whatever makes the schema of version 2 is right, and what it makes of the value stands there
	b := family(t)
	st := b.s.State()
	readOnly, unsorted := plainState(st), plainState(st)
	for i := range readOnly.Spans {
		readOnly.Spans[i].Prot = 1
	}
	slices.SortStableFunc(unsorted.Spans, func(x, y spans.Span) int { return y.First - x.First })
	share, rest, _ := strings.Cut(snap.Script, "\n")
	for _, c := range []struct {
		script string
		want   sys.State
		steps  int
	}{
		{snap.Script, plainState(st), 23},
		{snap.Script + "; nothing more\n\n", plainState(st), 23},
		{rest + strings.ReplaceAll(share, "fds", "slots"), plainState(st), 23},
		{"rename procs p\n" + snap.Script + "rename p procs", plainState(st), 25},
		{strings.Replace(snap.Script, "i8 3", "i8 1", 1), readOnly, 23},
		{strings.Replace(snap.Script, "pid first", "first pid", 1), sorted(plainState(st), func(x, y spans.Span) int { return 100*(x.First-y.First) + x.PID - y.PID }), 23},
		{strings.Replace(snap.Script, "sort areas pid first\n", "", 1), sorted(plainState(st), func(x, y spans.Span) int {
			return slices.Index(st.Areas, areas.Area{PID: x.PID, First: x.First, Count: x.Count}) - slices.Index(st.Areas, areas.Area{PID: y.PID, First: y.First, Count: y.Count})
		}), 19},
		{snap.Script + strings.Repeat("sort spans pid first\n", 54), plainState(st), 23 + 54*4},
	} {
		want, e := snap.Bytes(c.want)
		if e != api.OK {
			t.Fatal(e)
		}
		moves(t, b.bytes(), c.script, want, c.steps)
	}
}

// sorted is a state with its spans in another order.
func sorted(st sys.State, compare func(x, y spans.Span) int) sys.State {
	slices.SortStableFunc(st.Spans, compare)
	return st
}

func TestAgain(t *testing.T) { // R6: the same call tells the same, whatever was asked for ahead of it
	b := family(t)
	m, _ := Move(b.bytes(), snap.Script, 10000)
	for range 3 {
		moves(t, b.bytes(), snap.Script, m, 23)
		stays(t, m, snap.Script, api.ErrForm)
		stays(t, b.bytes(), "foo", api.ErrForm)
		if !Right(b.s, b.moved()) {
			t.Error("Whole")
		}
	}
}

func TestBuild(t *testing.T) { // 31.2: the system of bytes of version 2
	b := family(t)
	was := boundOf(b.p.Kernel)
	m, _ := Move(b.bytes(), snap.Script, 10000)
	s, e := Build(b.p, m)
	if e != api.OK || !identical(s.State(), plainState(b.s.State())) || !abs.Same(abs.Of(s), abs.Of(b.s)) {
		t.Errorf("Build: %v, %v", s.State(), e)
	}
	if !identicalBound(was, boundOf(b.p.Kernel)) {
		t.Error("something has changed")
	}
	now, _ := snap.Bytes(s.State())
	if again, e := Build(b.p, now); e != api.OK || !identical(again.State(), s.State()) {
		t.Errorf("Build: %v", e)
	}
}

// fails wants that nothing is built.
func (b *box) fails(p Place, s string, want api.Errno) {
	b.t.Helper()
	was := boundOf(p.Kernel)
	if x, e := Build(p, s); x != nil || e != want {
		b.t.Errorf("Build(%v, %.80q): %v, %v, not %v", p, s, x, e, want)
	}
	if !identicalBound(was, boundOf(p.Kernel)) {
		b.t.Error("something has changed")
	}
}

// wrongPlaces are places where no system of a box is, and what is wrong.
func (b *box) wrongPlaces() map[api.Errno][]Place {
	empty, _ := kern.New(8, 8, 4)
	k, right := b.p.Kernel, b.p.Programs
	return map[api.Errno][]Place{
		api.ErrArg:  {{Kernel: k, Env: 1}, {Kernel: k, Env: 1, Programs: []string{}}, {Kernel: k, Env: 1, Programs: make([]string, 9)}, {}, {Env: 9}},
		api.ErrLong: {{Kernel: k, Env: 1, Programs: append([]string{strings.Repeat("\x00", api.MaxCode+1)}, right...)}, {Programs: []string{"", strings.Repeat("\x00", 1<<20)}}},
		api.ErrForm: {{Kernel: k, Env: 2, Programs: right}, {Kernel: k, Env: 3, Programs: right}, {Kernel: k, Programs: right}, {Kernel: k, Env: -1, Programs: right}, {Kernel: empty, Env: 1, Programs: right}, {Env: 1, Programs: right}},
	}
}

func TestBuildThatFails(t *testing.T) { // 31.2: snap.Read's error; ErrForm of version 1; sys.Load's error
	b := family(t)
	m, _ := Move(b.bytes(), snap.Script, 10000)
	for _, p := range []Place{b.p, {}} {
		b.fails(p, m+strings.Repeat("\x00", api.MaxBytes), api.ErrLong)
		for _, s := range []string{"", m[1:], m[:len(m)-1], m + "\x00", "im\x03" + m[3:], "im\x00" + m[3:], "im\x01" + m[3:], b.bytes(), plain(t)} {
			b.fails(p, s, api.ErrForm)
		}
	}
	for want, places := range b.wrongPlaces() {
		for _, p := range places {
			b.fails(p, m, want)
		}
	}
	st := plainState(b.s.State())
	for what, change := range map[string]func(st *sys.State){
		"a frame that is none of the environment's": func(st *sys.State) { st.Pages[0].Frame = b.p.Kernel.List(2, api.Frame)[0] },
		"a block that is none of the environment's": func(st *sys.State) { st.Files[1].Blocks[1] = b.p.Kernel.List(2, api.Block)[0] },
		"a program that is none":                    func(st *sys.State) { st.Procs[0].Program = 2 },
		"a parent that is not there":                func(st *sys.State) { st.Procs[1].Parent = 3 },
		"spans in another order":                    func(st *sys.State) { st.Spans[0], st.Spans[1] = st.Spans[1], st.Spans[0] },
	} {
		now := st
		now.Procs, now.Pages, now.Spans = slices.Clone(st.Procs), slices.Clone(st.Pages), slices.Clone(st.Spans)
		now.Files = []files.Info{st.Files[0], {ID: st.Files[1].ID, Size: st.Files[1].Size, Blocks: slices.Clone(st.Files[1].Blocks)}}
		change(&now)
		s, e := snap.Bytes(now)
		if e != api.OK {
			t.Fatalf("%s: %v", what, e)
		}
		b.fails(b.p, s, api.ErrForm)
	}
}

func TestProgramsAreNotKept(t *testing.T) { // R3: nor is the list of programs changed
	b := family(t)
	programs := slices.Clone(b.p.Programs)
	m, _ := Move(b.bytes(), snap.Script, 10000)
	s, _ := Build(Place{b.p.Kernel, 1, programs}, m)
	x, _ := Whole(Place{b.p.Kernel, 1, programs}, b.s, snap.Script)
	if !slices.Equal(programs, b.p.Programs) {
		t.Error("programs have changed")
	}
	clear(programs)
	for _, now := range []*sys.System{s, x} {
		if e := now.Step(2); e.Kind != sys.Ran {
			t.Errorf("%v", e)
		}
	}
}

func TestRight(t *testing.T) { // 31.2: of any two systems, of either version
	b := family(t)
	now := b.moved()
	for _, c := range [][2]*sys.System{{b.s, now}, {now, b.s}, {b.s, b.s}, {now, now}, {nil, nil}} {
		if !Right(c[0], c[1]) {
			t.Errorf("%v is not right: %v", c[1].State(), c[0].State())
		}
	}
	for _, c := range [][2]*sys.System{{b.s, nil}, {nil, b.s}, {nil, now}, {now, nil}} {
		if Right(c[0], c[1]) {
			t.Error("a system that is none is right")
		}
	}
}

// otherwise are changes of a state of version 2, behind which it is not right any more.
func (b *box) otherwise() map[string]func(st *sys.State) {
	k := b.p.Kernel
	bind := func(kind, load int, s string) int {
		r := k.Do(1, kern.Call{What: kern.Bind, A: kind})
		k.Do(1, kern.Call{What: load, H: r.H, S: s})
		return r.N
	}
	same := k.Do(1, kern.Call{What: kern.Page, H: k.Root(api.Frame, b.s.State().Pages[0].Frame)}).S
	frame, zeros, block := bind(api.Frame, kern.Load, same), bind(api.Frame, kern.Load, strings.Repeat("\x00", 16)), bind(api.Block, kern.Write, strings.Repeat("\x00", 8))
	return map[string]func(st *sys.State){
		"two pages' frames are exchanged": func(st *sys.State) { st.Pages[0].Frame, st.Pages[1].Frame = st.Pages[1].Frame, st.Pages[0].Frame },
		"a page has another frame":        func(st *sys.State) { st.Pages[1].Frame = frame },
		"a page of zeros more":            func(st *sys.State) { st.Pages = append(st.Pages, pages.Entry{PID: 2, Page: 1, Frame: zeros}) },
		"a page less":                     func(st *sys.State) { st.Pages = st.Pages[1:] },
		"a file's blocks are exchanged": func(st *sys.State) {
			st.Files[1].Blocks[0], st.Files[1].Blocks[1] = st.Files[1].Blocks[1], st.Files[1].Blocks[0]
		},
		"a file has another block": func(st *sys.State) { st.Files[1].Blocks[1] = block },
		"a file is shorter":        func(st *sys.State) { st.Files[1].Size-- },
		"a file less":              func(st *sys.State) { st.Files = st.Files[:1]; st.Opens[3].Obj, st.Opens[9].Obj = 1, 1 },
		"a file more":              func(st *sys.State) { st.Files = append(st.Files, files.Info{ID: 3}) },
		"a pipe has more":          func(st *sys.State) { st.Pipes[0].Data += "x" },
		"a pipe has other bytes":   func(st *sys.State) { st.Pipes[0].Data = "x" + st.Pipes[0].Data[1:] },
		"a pipe more": func(st *sys.State) {
			st.Pipes = append(st.Pipes, pipes.Info{ID: 1})
			st.Opens[0] = opens.Open{Kind: api.Reader, Obj: 1}
		},
		"another register":          func(st *sys.State) { st.Procs[1].CPU.R[7]++ },
		"another PC":                func(st *sys.State) { st.Procs[1].CPU.PC++ },
		"another program":           func(st *sys.State) { st.Procs[1].Program = 1 },
		"another parent":            func(st *sys.State) { st.Procs[1].Parent = 0 },
		"a process more":            func(st *sys.State) { st.Procs = append(st.Procs, sys.Proc{PID: 3}) },
		"an area of another size":   func(st *sys.State) { st.Spans[2].Count = 3 },
		"an area less":              func(st *sys.State) { st.Spans = st.Spans[:2] },
		"an area that is protected": func(st *sys.State) { st.Spans[2].Prot = spans.ReadOnly },
		"a descriptor less":         func(st *sys.State) { st.Slots, st.Opens = st.Slots[:11], st.Opens[:11] },
		"another place":             func(st *sys.State) { st.Opens[2].Off = 1 },
		"another object":            func(st *sys.State) { st.Opens[2].Obj = 2 },
		"a place that is shared": func(st *sys.State) {
			st.Slots[6].Open = st.Slots[0].Open
			st.Opens = slices.Delete(slices.Clone(st.Opens), 6, 7)
		},
	}
}

func TestNotRight(t *testing.T) { // 31.2: another view, other frames, other blocks
	b := family(t)
	st := plainState(b.s.State())
	for what, change := range b.otherwise() {
		now := b.loaded(st).State()
		change(&now)
		s := b.loaded(now)
		if Right(b.s, s) || Right(s, b.s) {
			t.Errorf("%s: right", what)
		}
	}
	first := b.s.State()
	first.Desc = append([]desc.Entry(nil), first.Desc...)
	first.Desc[2].Off++
	if Right(b.loaded(first), b.moved()) {
		t.Error("right")
	}
}

func TestWhole(t *testing.T) { // 31.3, 31.4: the system that comes of the old one, which is as it was
	b := family(t)
	st, was := b.s.State(), boundOf(b.p.Kernel)
	now := b.moved()
	if !identical(now.State(), plainState(st)) || !Right(b.s, now) {
		t.Errorf("%v, of %v", now.State(), st)
	}
	if !identical(b.s.State(), st) || !identicalBound(was, boundOf(b.p.Kernel)) {
		t.Error("something has changed")
	}
}

func TestWholeOfLongScripts(t *testing.T) { // 31.3: with all fuel: a script that takes many steps, too
	b := family(t)
	now, e := Whole(b.p, b.s, strings.Repeat("sort pages pid page\nsort fds pid slot\n", 27)+snap.Script)
	if e != api.OK || !identical(now.State(), plainState(b.s.State())) {
		t.Errorf("Whole: %v, %v", now.State(), e)
	}
}

func TestWholeThatFails(t *testing.T) { // 31.3: the errors, in their order; nothing is made, nothing changes
	b := family(t)
	now := b.moved()
	st, was := b.s.State(), boundOf(b.p.Kernel)
	fails := func(p Place, old *sys.System, script string, want api.Errno) {
		t.Helper()
		if s, e := Whole(p, old, script); s != nil || e != want {
			t.Errorf("Whole(%q): %v, %v, not %v", script, s, e, want)
		}
		if !identical(b.s.State(), st) || !identicalBound(was, boundOf(b.p.Kernel)) {
			t.Fatal("something has changed")
		}
	}
	readOnly := strings.Replace(snap.Script, "i8 3", "i8 1", 1)
	for _, script := range []string{snap.Script, "foo", "drop files", readOnly} {
		fails(b.p, nil, script, api.ErrArg)
		fails(b.p, &sys.System{}, script, api.ErrArg)
		fails(Place{}, nil, script, api.ErrArg)
		fails(b.p, now, script, api.ErrForm)
		fails(Place{}, now, script, api.ErrForm)
	}
	for _, p := range []Place{b.p, {}} {
		for _, script := range []string{"", "foo", "drop files", "drop foo", snap.Script + "add more i8 0"} {
			fails(p, b.s, script, api.ErrForm)
		}
	}
	for want, places := range b.wrongPlaces() {
		for _, p := range places {
			fails(p, b.s, snap.Script, want)
			fails(p, b.s, readOnly, want)
		}
	}
	for prot := range 5 {
		if prot != 3 {
			fails(b.p, b.s, strings.Replace(snap.Script, "i8 3", "i8 "+strconv.Itoa(prot), 1), api.ErrForm)
		}
	}
	fails(b.p, b.s, strings.Replace(snap.Script, "pid first", "first pid", 1), api.ErrForm)
}

func TestOtherPlaces(t *testing.T) { // 31.3: a place whose frames have other bytes makes nothing that is right
	b, c := family(t), family(t)
	if now, e := Whole(c.p, b.s, snap.Script); e != api.OK || !Right(b.s, now) {
		t.Errorf("Whole: %v", e)
	}
	k := c.p.Kernel
	k.Do(1, kern.Call{What: kern.Set, H: k.Root(api.Frame, c.s.State().Pages[0].Frame), A: 9, B: 9})
	if now, e := Whole(c.p, b.s, snap.Script); now != nil || e != api.ErrForm {
		t.Errorf("Whole: %v, %v", now, e)
	}
}

func TestEnded(t *testing.T) { // 31.4: of a system whose processes have ended, too
	b := family(t)
	b.s = b.loaded(func() sys.State { st := b.s.State(); st.Procs[1].Program, st.Procs[1].CPU.PC = 1, 0; return st }())
	for _, pid := range []int{2, 1} {
		for range 30 {
			if pid == 1 {
				st := b.s.State()
				st.Procs[0].Program, st.Procs[0].CPU.PC = 1, 0
				b.s = b.loaded(st)
			}
			if b.s.Step(pid).Kind == sys.Exited {
				break
			}
		}
		if now := b.moved(); !Right(b.s, now) || !identical(now.State(), plainState(b.s.State())) {
			t.Errorf("%v, of %v", now.State(), b.s.State())
		}
	}
	if st := b.s.State(); len(st.Procs) != 0 || len(st.Files) != 2 {
		t.Errorf("%v", st)
	}
}
