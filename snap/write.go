package snap

import (
	"cmp"
	"slices"

	"imago/areas"
	"imago/desc"
	"imago/files"
	"imago/opens"
	"imago/pages"
	"imago/pipes"
	"imago/spans"
	"imago/sys"
	"imago/types"
	"imago/vals"
)

// tooMany are so many elements that no list of the schemas may have them.
const tooMany = 97

// list is the value of a list: of each element what is made of it. It ends where it is too long for any schema, so that a long list takes no long time.
func list[T any](l []T, made func(T) vals.Value) vals.Value {
	v := vals.Value{Kind: types.List}
	for _, x := range l[:min(len(l), tooMany)] {
		v.Kids = append(v.Kids, made(x))
	}
	return v
}

// number is the value of a number.
func number[T int | uint16](n T) vals.Value { return vals.Value{Kind: types.Int, N: int(n)} }

// record is the value of a row: of numbers, and of what stands behind them.
func record(numbers []int, behind ...vals.Value) vals.Value {
	return vals.Value{Kind: types.Rec, Kids: append(list(numbers, number).Kids, behind...)}
}

// byID are objects in the order of their IDs, in new memory.
func byID(l []opens.Open) []opens.Open {
	return slices.SortedStableFunc(slices.Values(l), func(a, b opens.Open) int { return cmp.Compare(a.ID, b.ID) }) // IDs may be too far apart to be subtracted
}

// written is the value of a table of a state, whose objects are in their order.
func written(s sys.State, name string) vals.Value {
	switch name {
	case procsTable:
		return list(s.Procs, procRow)
	case pagesTable:
		return list(s.Pages, func(e pages.Entry) vals.Value { return record([]int{e.PID, e.Page, e.Frame}) })
	case filesTable:
		return list(s.Files, func(i files.Info) vals.Value { return record([]int{i.ID, i.Size}, list(i.Blocks, number)) })
	case pipesTable:
		return list(s.Pipes, func(i pipes.Info) vals.Value {
			return record([]int{i.ID}, vals.Value{Kind: types.Text, S: i.Data})
		})
	case fdsTable:
		return list(s.Desc, func(e desc.Entry) vals.Value { return record([]int{e.PID, e.Slot, e.Kind, e.Obj, e.Off}) })
	case areasTable:
		return list(s.Areas, func(a areas.Area) vals.Value { return record([]int{a.PID, a.First, a.Count}) })
	case slotsTable:
		return list(s.Slots, func(x opens.Slot) vals.Value { return record([]int{x.PID, x.Slot, placeOf(s.Opens, x.Open)}) })
	case spansTable:
		return list(s.Spans, func(a spans.Span) vals.Value { return record([]int{a.PID, a.First, a.Count, a.Prot}) })
	case opensTable:
		return list(s.Opens, func(o opens.Open) vals.Value { return record([]int{o.Kind, o.Obj, o.Off}) })
	}
	return vals.Value{}
}

// procRow is the value of a process.
func procRow(p sys.Proc) vals.Value {
	ended := 0
	if p.Ended {
		ended = 1
	}
	return record([]int{p.PID, p.Parent, p.Program, ended, p.Status, int(p.CPU.PC)}, list(p.CPU.R[:], number))
}

// placeOf is where the object of an ID stands; -1, which fits no field, if there is none.
func placeOf(l []opens.Open, id int) int {
	return slices.IndexFunc(l, func(o opens.Open) bool { return o.ID == id })
}
