package sys

import (
	"imago/api"
	"imago/areas"
	"imago/desc"
	"imago/opens"
	"imago/spans"
)

// tables are those of one version; the other one's are nil, and so have nothing.
type tables struct {
	desc  *desc.Table
	areas *areas.List
	opens *opens.Table
	spans *spans.Table
}

// face is how the tables of either version are asked.
type face struct {
	calls int // the number of the version's last call

	add   func(pid, kind, obj int) (int, api.Errno)
	get   func(pid, slot int) (desc.Entry, api.Errno)
	seek  func(pid, slot, off int) api.Errno
	dup   func(pid, slot int) (int, api.Errno)
	close func(pid, slot int) api.Errno
	refs  func(kind, obj int) int

	lay   func(pid, n int) (int, api.Errno)
	unmap func(pid, first int) (int, api.Errno)
	may   func(pid, page int, write bool) bool

	inherit   func(parent, child int)
	dropSlots func(pid int) int
	dropAreas func(pid int) int

	// What only calls of version 2 ask.
	dup2    func(pid, slot, to int) api.Errno
	protect func(pid, first, prot int) api.Errno
}

// load are the tables of a state, and whether they are such as its version may have.
func load(st State) (tables, bool) {
	if st.Version == 1 {
		slots, wrongSlots := desc.Load(st.Desc)
		memory, wrongMemory := areas.Load(st.Areas)
		others := len(st.Opens) + len(st.Slots) + len(st.Spans)
		return tables{desc: slots, areas: memory}, wrongSlots == api.OK && wrongMemory == api.OK && others == 0
	}
	slots, wrongSlots := opens.Load(st.Opens, st.Slots)
	memory, wrongMemory := spans.Load(st.Spans)
	others := len(st.Desc) + len(st.Areas)
	return tables{opens: slots, spans: memory}, wrongSlots == api.OK && wrongMemory == api.OK && others == 0
}

// faceOf is how tables of a version are asked.
func faceOf(version int, t tables) face {
	if version == 1 {
		return firstFace(t.desc, t.areas)
	}
	return secondFace(t.opens, t.spans)
}

// firstFace asks tables of version 1.
func firstFace(slots *desc.Table, memory *areas.List) face {
	return face{
		calls: callPid,

		add:   slots.Add,
		get:   slots.Get,
		seek:  slots.Seek,
		dup:   slots.Dup,
		close: slots.Close,
		refs:  slots.Refs,

		lay:   memory.Map,
		unmap: memory.Unmap,
		may:   func(pid, page int, write bool) bool { return memory.Has(pid, page) }, // what may be read may be written

		inherit: func(parent, child int) {
			slots.Fork(parent, child)
			memory.Fork(parent, child)
		},
		dropSlots: slots.Drop,
		dropAreas: memory.Drop,
	}
}

// secondFace asks tables of version 2.
func secondFace(slots *opens.Table, memory *spans.Table) face {
	return face{
		calls: callProtect,

		add:   slots.Add,
		get:   slots.Get,
		seek:  slots.Seek,
		dup:   slots.Dup,
		close: slots.Close,
		refs:  slots.Refs,

		lay:   memory.Map,
		unmap: memory.Unmap,
		may:   memory.May,

		inherit: func(parent, child int) {
			slots.Fork(parent, child)
			memory.Fork(parent, child)
		},
		dropSlots: slots.Drop,
		dropAreas: memory.Drop,

		dup2:    slots.Dup2,
		protect: memory.Protect,
	}
}
