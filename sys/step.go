package sys

import (
	"imago/api"
	"imago/bits"
	"imago/cpu"
)

// Statuses of processes that end otherwise than by their own will.
const (
	statusBad   = 132 // no instruction
	statusMem   = 137 // no frame
	statusFault = 139 // no address that may be used so

	mostStatus = 1<<8 - 1
)

// Step does a step of a process.
func (s *System) Step(pid int) Event {
	p := s.alive(pid)
	if p == nil {
		return Event{Kind: Idle, PID: pid}
	}
	before := p.CPU
	var act cpu.Act
	p.CPU, act = cpu.Step(before, s.programs[p.Program])
	switch act.Kind {
	case cpu.Bad:
		return s.end(p, statusBad)
	case cpu.Ended:
		return s.end(p, 0)
	case cpu.Called:
		return s.called(p, act.N, before)
	case cpu.Reads:
		return s.loads(p, act)
	case cpu.Writes:
		return s.stores(p, act)
	}
	return Event{Kind: Ran, PID: pid}
}

// loads does an instruction that reads memory.
func (s *System) loads(p *Proc, act cpu.Act) Event {
	if !s.mayAll(p.PID, act.Addr, act.Size, false) {
		return s.end(p, statusFault)
	}
	v, _ := bits.Num(s.bytes(p.PID, act.Addr, act.Size))
	p.CPU, _ = cpu.Loaded(p.CPU, act.Reg, int(v))
	return Event{Kind: Ran, PID: p.PID}
}

// stores does an instruction that writes memory.
func (s *System) stores(p *Proc, act cpu.Act) Event {
	if !s.mayAll(p.PID, act.Addr, act.Size, true) {
		return s.end(p, statusFault)
	}
	b, _ := bits.Bytes(uint32(act.Value), act.Size)
	if !s.put(p.PID, act.Addr, b) {
		return s.end(p, statusMem)
	}
	return Event{Kind: Ran, PID: p.PID}
}

// mayAll tells whether a process may read, or write, each of n bytes from an address on.
func (s *System) mayAll(pid, addr, n int, write bool) bool {
	for at := addr; at < addr+n; at++ {
		if !s.either.may(pid, at/api.FrameSize, write) {
			return false
		}
	}
	return true
}

// bytes are n bytes of a process's memory, all of which it may read.
func (s *System) bytes(pid, addr, n int) string {
	b, _ := s.pages.Read(pid, addr, n) // an error is told of no bytes alone, where addr may be no address
	return b
}

// put writes bytes into a process's memory, all of which it may write, and tells whether frames could be got. Of none addr may be no address.
func (s *System) put(pid, addr int, b string) bool {
	return b == "" || s.pages.Write(pid, addr, b) == api.OK
}

// called does a call. One that must wait leaves the process as it was before the step.
func (s *System) called(p *Proc, n int, before api.CPU) Event {
	if n == callExit {
		return s.end(p, cpu.Args(p.CPU)[0]&mostStatus)
	}
	r := s.answer(p, n)
	if r.wait {
		p.CPU = before
		return Event{Kind: Blocked, PID: p.PID, Call: n}
	}
	p.CPU = cpu.Answer(p.CPU, r.result)
	return Event{Kind: Done, PID: p.PID, Call: n, Result: r.result, Output: r.output}
}

// end ends a process.
func (s *System) end(p *Proc, status int) Event {
	s.either.dropSlots(p.PID)
	s.either.dropAreas(p.PID)
	s.pages.Drop(p.PID)
	s.closePipes()
	p.Ended, p.Status = true, status
	s.orphan(p.PID)
	if p.Parent == 0 {
		s.remove(p)
	}
	return Event{Kind: Exited, PID: p.PID, Result: status}
}

// orphan makes the children of a process nobody's: nobody will wait for those that have ended.
func (s *System) orphan(pid int) {
	for _, p := range s.procs {
		if p == nil || p.Parent != pid {
			continue
		}
		p.Parent = 0
		if p.Ended {
			s.remove(p)
		}
	}
}

// remove makes a process that has ended one that is not there. It has children still, if it was loaded so.
func (s *System) remove(p *Proc) {
	s.procs[p.PID-1] = nil
	s.orphan(p.PID)
}

// isNamed tells whether a descriptor names an end of a pipe.
func (s *System) isNamed(id int) bool {
	return s.either.refs(api.Reader, id)+s.either.refs(api.Writer, id) > 0
}

// closePipes closes the pipes that no descriptor names any more.
func (s *System) closePipes() {
	for _, i := range s.pipes.List() {
		if !s.isNamed(i.ID) {
			s.pipes.Close(i.ID)
		}
	}
}
