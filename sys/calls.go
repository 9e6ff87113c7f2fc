package sys

import (
	"slices"

	"imago/api"
	"imago/bits"
	"imago/cpu"
)

// Calls' numbers. Those behind callPid are of version 2 only.
const (
	callExit = iota + 1
	callFork
	callWait
	callExec
	callOpen
	callClose
	callRead
	callWrite
	callPipe
	callDup
	callSeek
	callMap
	callUnmap
	callPid
	callDup2
	callSkip
	callProtect
)

// Errors of calls, as they are answered.
const (
	badArg = 1<<16 - 1 - iota
	badNone
	badFull
	badMem
	badChild
	badPipe
	badCall
)

const (
	mostBytes = 16     // that are read or written by one call
	second    = 1 << 8 // an answer of two numbers has the second one times this
	cutFile   = 1      // how a file is opened that is cut
)

// reply is what comes of a call: that it must wait, or what it answers, and puts out.
type reply struct {
	wait   bool
	result int
	output string
}

// answered is the reply of a call that does not wait, and puts nothing out.
func answered(result int) reply { return reply{result: result} }

// answer does a call that does not end its process.
func (s *System) answer(p *Proc, n int) reply {
	pid, args := p.PID, cpu.Args(p.CPU)
	a, b, c := args[0], args[1], args[2]
	if n > s.either.calls {
		return answered(badCall)
	}
	switch n {
	case callFork:
		return answered(s.fork(p))
	case callWait:
		return s.wait(pid)
	case callExec:
		return answered(s.exec(p, a))
	case callOpen:
		return answered(s.open(pid, a, b))
	case callClose:
		return answered(s.close(pid, a))
	case callRead:
		return s.read(pid, a, b, c)
	case callWrite:
		return s.write(pid, a, b, c)
	case callPipe:
		return answered(s.pipe(pid))
	case callDup:
		return answered(s.dup(pid, a))
	case callSeek:
		return answered(s.seek(pid, a, b))
	case callMap:
		return answered(s.lay(pid, a))
	case callUnmap:
		return answered(s.unmap(pid, a))
	case callPid:
		return answered(pid)
	case callDup2:
		return answered(s.dup2(pid, a, b))
	case callSkip:
		return answered(s.skip(pid, a, b))
	case callProtect:
		return answered(s.protect(pid, a, b))
	}
	return answered(badCall)
}

// fork makes a child, with all that the process has.
func (s *System) fork(p *Proc) int {
	free := slices.Index(s.procs[:], nil)
	if free < 0 {
		return badFull
	}
	child := *p
	child.PID, child.Parent, child.CPU = free+1, p.PID, cpu.Answer(p.CPU, 0)
	s.procs[free] = &child
	s.either.inherit(p.PID, child.PID)
	s.pages.Fork(p.PID, child.PID)
	return child.PID
}

// wait waits for a child that has ended.
func (s *System) wait(pid int) reply {
	r := answered(badChild)
	for _, p := range s.procs {
		if p == nil || p.Parent != pid {
			continue
		}
		if p.Ended {
			s.remove(p)
			return answered(p.PID*second + p.Status)
		}
		r = reply{wait: true}
	}
	return r
}

// exec makes the process one of another program.
func (s *System) exec(p *Proc, program int) int {
	if program >= len(s.programs) {
		return badNone
	}
	s.either.dropAreas(p.PID)
	s.pages.Drop(p.PID)
	s.either.lay(p.PID, firstPages)
	p.Program, p.CPU = program, api.CPU{}
	return 0
}

// open opens a file.
func (s *System) open(pid, id, how int) int {
	if id >= api.MaxFiles {
		return badNone
	}
	if how > cutFile {
		return badArg
	}
	slot, e := s.either.add(pid, api.File, id)
	if e != api.OK {
		return badFull
	}
	s.files.Make(id)
	if how == cutFile {
		s.files.Cut(id)
	}
	return slot
}

// close closes a descriptor.
func (s *System) close(pid, slot int) int {
	if s.either.close(pid, slot) != api.OK {
		return badArg
	}
	s.closePipes()
	return 0
}

// read reads what a descriptor names, n bytes at most, to an address.
func (s *System) read(pid, slot, addr, n int) reply {
	d, e := s.either.get(pid, slot)
	if e != api.OK || n > mostBytes || d.Kind == api.Writer || !s.mayAll(pid, addr, n, true) {
		return answered(badArg)
	}
	var b string
	switch d.Kind {
	case api.File:
		b, _ = s.files.Read(d.Obj, d.Off, n)
	case api.Reader:
		b = s.waiting(d.Obj)
		if b == "" && s.either.refs(api.Writer, d.Obj) > 0 {
			return reply{wait: true}
		}
		b = b[:min(n, len(b))]
	}
	if !s.put(pid, addr, b) {
		return answered(badMem)
	}
	switch d.Kind {
	case api.File:
		s.either.seek(pid, slot, d.Off+len(b))
	case api.Reader:
		s.pipes.Read(d.Obj, len(b))
	}
	return answered(len(b))
}

// waiting are the bytes that wait in a pipe: they must stay there, if they cannot be put where they are wanted.
func (s *System) waiting(id int) string {
	b := ""
	for _, i := range s.pipes.List() {
		if i.ID == id {
			b = i.Data
		}
	}
	return b
}

// write writes n bytes from an address on to what a descriptor names.
func (s *System) write(pid, slot, addr, n int) reply {
	d, e := s.either.get(pid, slot)
	if e != api.OK || n > mostBytes || d.Kind == api.Reader || !s.mayAll(pid, addr, n, false) {
		return answered(badArg)
	}
	b := s.bytes(pid, addr, n)
	switch d.Kind {
	case api.Console:
		return reply{result: n, output: b}
	case api.File:
		if s.files.Write(d.Obj, d.Off, b) != api.OK {
			return answered(badFull)
		}
		s.either.seek(pid, slot, d.Off+n)
	case api.Writer:
		if s.either.refs(api.Reader, d.Obj) == 0 {
			return answered(badPipe)
		}
		if s.pipes.Write(d.Obj, b) != api.OK {
			return reply{wait: true}
		}
	}
	return answered(n)
}

// pipe makes a pipe, and descriptors of both its ends; if one of these cannot be had, none.
func (s *System) pipe(pid int) int {
	id, e := s.pipes.Open()
	if e != api.OK {
		return badFull
	}
	reader, e := s.either.add(pid, api.Reader, id)
	if e != api.OK {
		s.closePipes()
		return badFull
	}
	writer, e := s.either.add(pid, api.Writer, id)
	if e != api.OK {
		s.close(pid, reader)
		return badFull
	}
	return reader + writer*second
}

// dup doubles a descriptor.
func (s *System) dup(pid, slot int) int {
	to, e := s.either.dup(pid, slot)
	switch e {
	case api.OK:
		return to
	case api.ErrFull:
		return badFull
	}
	return badArg
}

// seek moves the place of a file's descriptor.
func (s *System) seek(pid, slot, off int) int {
	d, e := s.either.get(pid, slot)
	if e != api.OK || d.Kind != api.File || s.either.seek(pid, slot, off) != api.OK {
		return badArg
	}
	return off
}

// lay maps an area of n pages.
func (s *System) lay(pid, n int) int {
	first, e := s.either.lay(pid, n)
	switch e {
	case api.OK:
		return first * api.FrameSize
	case api.ErrFull:
		return badFull
	}
	return badArg
}

// unmap unmaps the area that begins at an address.
func (s *System) unmap(pid, addr int) int {
	if addr%api.FrameSize != 0 {
		return badArg
	}
	first := addr / api.FrameSize
	n, e := s.either.unmap(pid, first)
	if e != api.OK {
		return badArg
	}
	for page := first; page < first+n; page++ {
		s.pages.Unmap(pid, page)
	}
	return 0
}

// dup2 makes a slot name what another one names.
func (s *System) dup2(pid, slot, to int) int {
	if s.either.dup2(pid, slot, to) != api.OK {
		return badArg
	}
	s.closePipes()
	return to
}

// skip moves the place of a file's descriptor by a number with a sign.
func (s *System) skip(pid, slot, by int) int {
	d, _ := s.either.get(pid, slot)
	return s.seek(pid, slot, d.Off+bits.Signed(bits.Word(by)))
}

// protect says what may be done in the area that begins at an address.
func (s *System) protect(pid, addr, prot int) int {
	if addr%api.FrameSize != 0 || s.either.protect(pid, addr/api.FrameSize, prot) != api.OK {
		return badArg
	}
	return 0
}
