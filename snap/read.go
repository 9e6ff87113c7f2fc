package snap

import (
	"slices"

	"imago/api"
	"imago/areas"
	"imago/desc"
	"imago/files"
	"imago/opens"
	"imago/pages"
	"imago/pipes"
	"imago/spans"
	"imago/sys"
	"imago/types"
	"imago/vals"
	"imago/wire"
)

// Places of fields in their rows.
const (
	openField   = 2 // of slots
	endedField  = 3 // of procs
	regsField   = 6 // of procs
	blocksField = 2 // of files
	dataField   = 1 // of pipes
)

// each are what is made of each element of a list.
func each[T any](list vals.Value, made func(vals.Value) T) []T {
	var l []T
	for _, kid := range list.Kids {
		l = append(l, made(kid))
	}
	return l
}

// numberOf is a value's number.
func numberOf(v vals.Value) int { return v.N }

// table is the value of a table; of one that the schema has not, a value without rows.
func table(w wire.State, name string) vals.Value {
	at := types.Field(w.Type, name)
	if at < 0 {
		return vals.Value{}
	}
	return w.Value.Kids[at]
}

// right tells whether a value of a version's schema is that of a state.
func right(w wire.State) bool {
	objects := len(table(w, opensTable).Kids)
	wrongProc := func(row vals.Value) bool {
		return row.Kids[endedField].N > 1 || len(row.Kids[regsField].Kids) != api.Regs
	}
	wrongSlot := func(row vals.Value) bool { return row.Kids[openField].N >= objects }
	return !slices.ContainsFunc(table(w, procsTable).Kids, wrongProc) && !slices.ContainsFunc(table(w, slotsTable).Kids, wrongSlot)
}

// told is the state that a right value tells.
func told(w wire.State) sys.State {
	return sys.State{
		Version: w.Version,
		Procs:   each(table(w, procsTable), toProc),
		Files:   each(table(w, filesTable), toFile),
		Pipes:   each(table(w, pipesTable), toPipe),
		Pages:   each(table(w, pagesTable), toPage),
		Desc:    each(table(w, fdsTable), toDesc),
		Areas:   each(table(w, areasTable), toArea),
		Opens:   inPlaces(each(table(w, opensTable), toOpen)),
		Slots:   each(table(w, slotsTable), toSlot),
		Spans:   each(table(w, spansTable), toSpan),
	}
}

// inPlaces gives objects the IDs of their places.
func inPlaces(l []opens.Open) []opens.Open {
	for id := range l {
		l[id].ID = id
	}
	return l
}

// toProc is a row's process.
func toProc(row vals.Value) sys.Proc {
	n := each(row, numberOf)
	p := sys.Proc{PID: n[0], Parent: n[1], Program: n[2], Ended: n[endedField] == 1, Status: n[4], CPU: api.CPU{PC: uint16(n[5])}}
	for i, r := range row.Kids[regsField].Kids {
		p.CPU.R[i] = uint16(r.N)
	}
	return p
}

func toFile(row vals.Value) files.Info {
	n := each(row, numberOf)
	return files.Info{ID: n[0], Size: n[1], Blocks: each(row.Kids[blocksField], numberOf)}
}

func toPipe(row vals.Value) pipes.Info {
	n := each(row, numberOf)
	return pipes.Info{ID: n[0], Data: row.Kids[dataField].S}
}

func toPage(row vals.Value) pages.Entry {
	n := each(row, numberOf)
	return pages.Entry{PID: n[0], Page: n[1], Frame: n[2]}
}

func toDesc(row vals.Value) desc.Entry {
	n := each(row, numberOf)
	return desc.Entry{PID: n[0], Slot: n[1], Kind: n[2], Obj: n[3], Off: n[4]}
}

func toArea(row vals.Value) areas.Area {
	n := each(row, numberOf)
	return areas.Area{PID: n[0], First: n[1], Count: n[2]}
}

func toOpen(row vals.Value) opens.Open {
	n := each(row, numberOf)
	return opens.Open{Kind: n[0], Obj: n[1], Off: n[2]}
}

func toSlot(row vals.Value) opens.Slot {
	n := each(row, numberOf)
	return opens.Slot{PID: n[0], Slot: n[1], Open: n[openField]}
}

func toSpan(row vals.Value) spans.Span {
	n := each(row, numberOf)
	return spans.Span{PID: n[0], First: n[1], Count: n[2], Prot: n[3]}
}
