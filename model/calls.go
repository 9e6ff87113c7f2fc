package model

import (
	"slices"

	"imago/abs"
	"imago/api"
	"imago/bits"
	"imago/cpu"
	"imago/sys"
)

// Calls' numbers. Those behind callPid are of version 2 only.
const (
	callExit = iota + 1
	callFork
	callWait
	callExec
	callOpen
	callClose
	callRead
	callWrite
	callPipe
	callDup
	callSeek
	callMap
	callUnmap
	callPid
	callDup2
	callSkip
	callProtect
)

// Errors of calls, as they are answered.
const (
	badArg = 1<<16 - 1 - iota
	badNone
	badFull
	badMem
	badChild
	badPipe
	badCall
)

// What may be done in an area, as calls say it.
const (
	readOnly  = 1
	readWrite = 3
)

const (
	mostBytes = 16     // that are read or written by one call
	second    = 1 << 8 // an answer of two numbers has the second one times this
	cutFile   = 1      // how a file is opened that is cut
	blocked   = -1     // instead of an answer: the call must wait
)

// called does a call. One that must wait leaves the process as it was before the step.
func (m *Model) called(p *proc, n int, before api.CPU) sys.Event {
	args := cpu.Args(p.CPU)
	if n == callExit {
		return m.end(p, args[0]&mostStatus)
	}
	result, output := m.answer(p, n, args)
	if result == blocked {
		p.CPU = before
		return sys.Event{Kind: sys.Blocked, PID: p.PID, Call: n}
	}
	p.CPU = cpu.Answer(p.CPU, result)
	return sys.Event{Kind: sys.Done, PID: p.PID, Call: n, Result: result, Output: output}
}

// answer is what a call answers that does not end its process, and what it puts out.
func (m *Model) answer(p *proc, n int, args [3]int) (int, string) {
	a, b, c := args[0], args[1], args[2]
	switch {
	case n > callPid && m.version == 1:
		return badCall, ""
	case n == callWrite:
		return m.put(p, a, b, c)
	}
	return m.silent(p, n, a, b, c), ""
}

// silent is what a call answers that puts nothing out.
func (m *Model) silent(p *proc, n, a, b, c int) int {
	switch n {
	case callFork:
		return m.fork(p)
	case callWait:
		return m.wait(p)
	case callExec:
		return m.exec(p, a)
	case callOpen:
		return m.open(p, a, b)
	case callClose:
		return m.close(p, a)
	case callRead:
		return m.get(p, a, b, c)
	case callPipe:
		return m.pipe(p)
	case callDup:
		return m.dup(p, a)
	case callSeek:
		return p.seek(a, func(int) int { return b })
	case callMap:
		return p.mapArea(a)
	case callUnmap:
		return p.unmapArea(a)
	case callPid:
		return p.PID
	case callDup2:
		return m.dup2(p, a, b)
	case callSkip:
		return p.seek(a, func(off int) int { return off + bits.Signed(bits.Word(b)) })
	case callProtect:
		return p.protect(a, b)
	}
	return badCall
}

// fork makes a child, with all that the process has.
func (m *Model) fork(p *proc) int {
	free := slices.Index(m.procs[:], nil)
	if free < 0 {
		return badFull
	}
	child := *p
	child.PID, child.Parent, child.CPU = free+1, p.PID, cpu.Answer(p.CPU, 0)
	child.areas = slices.Clone(p.areas)
	for slot, o := range p.slots {
		child.slots[slot] = m.double(o)
	}
	m.procs[free] = &child
	return child.PID
}

// double is what a descriptor names that is like another one: in version 1 it has a place of its own.
func (m *Model) double(o *open) *open {
	if o == nil || m.version == 2 {
		return o
	}
	own := *o
	return &own
}

// wait waits for a child that has ended.
func (m *Model) wait(p *proc) int {
	result := badChild
	for _, child := range m.all() {
		if child.Parent != p.PID {
			continue
		}
		if child.Ended {
			m.procs[child.PID-1] = nil
			return child.PID*second + child.Status
		}
		result = blocked
	}
	return result
}

// exec makes the process one of another program.
func (m *Model) exec(p *proc, program int) int {
	if program >= len(m.programs) {
		return badNone
	}
	p.begin(program)
	return 0
}

// at is what a slot of a process names, or nil, if no descriptor stands there.
func (p *proc) at(slot int) *open {
	if slot >= api.MaxSlots {
		return nil
	}
	return p.slots[slot]
}

// stand makes the lowest free slot of a process name something.
func (p *proc) stand(o *open) int {
	slot := slices.Index(p.slots[:], nil)
	if slot < 0 {
		return badFull
	}
	p.slots[slot] = o
	return slot
}

// open opens a file.
func (m *Model) open(p *proc, id, how int) int {
	if id >= api.MaxFiles {
		return badNone
	}
	if how > cutFile {
		return badArg
	}
	slot := p.stand(&open{kind: api.File, obj: id})
	if slot != badFull && (how == cutFile || m.files[id] == nil) {
		m.files[id] = &data{}
	}
	return slot
}

// close closes a descriptor.
func (m *Model) close(p *proc, slot int) int {
	if p.at(slot) == nil {
		return badArg
	}
	p.slots[slot] = nil
	m.closePipes()
	return 0
}

// isNamed tells whether a descriptor names that.
func (m *Model) isNamed(kind, obj int) bool {
	names := func(o *open) bool { return o != nil && o.kind == kind && o.obj == obj }
	return slices.ContainsFunc(m.all(), func(p *proc) bool { return slices.ContainsFunc(p.slots[:], names) })
}

// closePipes closes the pipes of which no descriptor names an end.
func (m *Model) closePipes() {
	for id := range m.pipes {
		if !m.isNamed(api.Reader, id) && !m.isNamed(api.Writer, id) {
			m.pipes[id] = nil
		}
	}
}

// get reads what a descriptor names, n bytes at most, to an address.
func (m *Model) get(p *proc, slot, addr, n int) int {
	o := p.at(slot)
	if o == nil || n > mostBytes || o.kind == api.Writer || !p.may(addr, n, true) {
		return badArg
	}
	var b string
	switch o.kind {
	case api.File:
		all := m.files[o.obj].bytes
		b = all[min(o.off, len(all)):]
	case api.Reader:
		b = m.pipes[o.obj].bytes
		if b == "" && m.isNamed(api.Writer, o.obj) {
			return blocked
		}
	}
	b = b[:min(n, len(b))]
	if !m.write(p, addr, b) {
		return badMem
	}
	switch o.kind {
	case api.File:
		o.off += len(b)
	case api.Reader:
		m.pipes[o.obj].bytes = m.pipes[o.obj].bytes[len(b):]
	}
	return len(b)
}

// put writes n bytes from an address on to what a descriptor names.
func (m *Model) put(p *proc, slot, addr, n int) (int, string) {
	o := p.at(slot)
	if o == nil || n > mostBytes || o.kind == api.Reader || !p.may(addr, n, false) {
		return badArg, ""
	}
	b := p.read(addr, n)
	switch o.kind {
	case api.Console:
		return n, b
	case api.File:
		if !m.lay(m.files[o.obj], o.off, b) {
			return badFull, ""
		}
		o.off += n
	case api.Writer:
		if !m.isNamed(api.Reader, o.obj) {
			return badPipe, ""
		}
		all := m.pipes[o.obj].bytes + b
		if len(all) > api.MaxPipe {
			return blocked, ""
		}
		m.pipes[o.obj].bytes = all
	}
	return n, ""
}

// lay writes bytes of a file, with bytes 0 between its end and them, and tells whether they have room there.
func (m *Model) lay(f *data, off int, b string) bool {
	if b == "" {
		return true
	}
	all := []byte(f.bytes)
	if more := off + len(b) - len(all); more > 0 {
		all = append(all, make([]byte, more)...)
	}
	copy(all[off:], b)
	_, blocks := m.Used()
	if len(all) > api.MaxFile || !m.mayGet(need(len(all))-need(len(f.bytes)), blocks, m.limits.Blocks) {
		return false
	}
	f.bytes = string(all)
	return true
}

// pipe makes a pipe, and descriptors of both its ends.
func (m *Model) pipe(p *proc) int {
	id := slices.Index(m.pipes[:], nil)
	if id < 0 {
		return badFull
	}
	slots := p.slots
	reader, writer := p.stand(&open{kind: api.Reader, obj: id}), p.stand(&open{kind: api.Writer, obj: id})
	if writer == badFull {
		p.slots = slots
		return badFull
	}
	m.pipes[id] = &data{}
	return reader + writer*second
}

// dup doubles a descriptor.
func (m *Model) dup(p *proc, slot int) int {
	o := p.at(slot)
	if o == nil {
		return badArg
	}
	return p.stand(m.double(o))
}

// dup2 makes a slot name what another one names.
func (m *Model) dup2(p *proc, slot, to int) int {
	o := p.at(slot)
	if o == nil || to >= api.MaxSlots {
		return badArg
	}
	p.slots[to] = o
	m.closePipes()
	return to
}

// seek moves the place of a file's descriptor.
func (p *proc) seek(slot int, moved func(off int) int) int {
	o := p.at(slot)
	if o == nil || o.kind != api.File {
		return badArg
	}
	off := moved(o.off)
	if off < 0 || off > api.MaxFile {
		return badArg
	}
	o.off = off
	return off
}

// mapArea maps an area of n pages.
func (p *proc) mapArea(n int) int {
	if n < 1 || n > api.Pages {
		return badArg
	}
	first, ok := p.lay(n)
	if !ok {
		return badFull
	}
	return first * api.FrameSize
}

// area is the area of a process that begins at an address, or nil, if none does.
func (p *proc) area(addr int) *abs.Area {
	for i := range p.areas {
		if a := &p.areas[i]; a.First*api.FrameSize == addr {
			return a
		}
	}
	return nil
}

// unmapArea unmaps the area that begins at an address.
func (p *proc) unmapArea(addr int) int {
	a := p.area(addr)
	if a == nil {
		return badArg
	}
	p.unmap(*a)
	return 0
}

// protect says what may be done in the area that begins at an address.
func (p *proc) protect(addr, prot int) int {
	a := p.area(addr)
	if a == nil || prot != readOnly && prot != readWrite {
		return badArg
	}
	a.Write = prot == readWrite
	return 0
}
