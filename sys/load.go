package sys

import "imago/api"

// enter makes processes those of the system, and tells whether they may be. A Parent that is no process's number is not there, either.
func (s *System) enter(l []Proc) bool {
	for _, p := range l {
		if !s.isProc(p) || s.at(p.PID) != nil {
			return false
		}
		s.procs[p.PID-1] = &p
	}
	for _, p := range s.list() {
		if p.Parent != 0 && s.at(p.Parent) == nil {
			return false
		}
	}
	return true
}

// isProc tells whether it is a process, whichever others are there.
func (s *System) isProc(p Proc) bool {
	if p.PID < 1 || p.PID > api.MaxProcs || p.Parent == p.PID || p.Program < 0 || p.Program >= len(s.programs) {
		return false
	}
	if !p.Ended {
		return p.Status == 0
	}
	return p.Status >= 0 && p.Status <= mostStatus && p.Parent != 0
}

// holds tells whether the tables hold together: all that one of them names is there.
func (s *System) holds() bool {
	for pid := 1; pid <= api.MaxProcs; pid++ {
		if !s.slotsHold(pid) || s.alive(pid) == nil && s.hasArea(pid) {
			return false
		}
	}
	for _, e := range s.pages.List() {
		if !s.either.may(e.PID, e.Page, false) { // a page in an area is of a process that is alive, as its area is
			return false
		}
	}
	for _, i := range s.pipes.List() {
		if !s.isNamed(i.ID) {
			return false
		}
	}
	return true
}

// slotsHold tells whether each descriptor of a process may be there.
func (s *System) slotsHold(pid int) bool {
	for slot := range api.MaxSlots {
		d, e := s.either.get(pid, slot)
		if e == api.OK && (s.alive(pid) == nil || !s.hasObject(d.Kind, d.Obj)) {
			return false
		}
	}
	return true
}

// hasObject tells whether the object of a descriptor is there.
func (s *System) hasObject(kind, obj int) bool {
	e := api.OK
	switch kind {
	case api.File:
		_, e = s.files.Size(obj)
	case api.Reader, api.Writer:
		_, e = s.pipes.Waits(obj)
	}
	return e == api.OK
}

// hasArea tells whether a process has an area.
func (s *System) hasArea(pid int) bool {
	for page := range api.Pages {
		if s.either.may(pid, page, false) {
			return true
		}
	}
	return false
}
