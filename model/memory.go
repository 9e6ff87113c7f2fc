package model

import (
	"slices"

	"imago/abs"
	"imago/api"
)

// frame is what a page has. Pages that are shared have one.
type frame [api.FrameSize]byte

// asked is what pages are counted for.
type asked func(p *proc, page int) bool

// count is of how many pages that is so which is asked.
func (m *Model) count(is asked) int {
	n := 0
	for _, p := range m.all() {
		for page := range api.Pages {
			if is(p, page) {
				n++
			}
		}
	}
	return n
}

// having asks for pages that have a frame.
func having(f *frame) asked {
	return func(p *proc, page int) bool { return p.pages[page] == f }
}

// firsts asks for pages that are there, but of those that share a frame for the first one that is asked.
func firsts() asked {
	var seen []*frame
	return func(p *proc, page int) bool {
		f := p.pages[page]
		if f == nil || slices.Contains(seen, f) {
			return false
		}
		seen = append(seen, f)
		return true
	}
}

// lacking asks for pages of a process in which n bytes from an address on lie, and that have no frame of their own.
func (m *Model) lacking(own *proc, addr, n int) asked {
	first, last := addr/api.FrameSize, (addr+n-1)/api.FrameSize
	return func(p *proc, page int) bool {
		if p != own || page < first || page > last {
			return false
		}
		f := p.pages[page]
		return f == nil || m.count(having(f)) > 1
	}
}

// Used are how many frames and blocks count.
func (m *Model) Used() (int, int) {
	if m == nil {
		return 0, 0
	}
	blocks := 0
	for _, f := range things(m.files[:]) {
		blocks += need(len(f.Data))
	}
	return m.count(firsts()), blocks
}

// need is how many blocks so many bytes need.
func need(size int) int { return (size + api.BlockSize - 1) / api.BlockSize }

// mayGet tells whether n more can be got of what so many are used of, and most are the limit.
func (m *Model) mayGet(n, used, most int) bool {
	frames, blocks := m.Used()
	return used+n <= most && frames+blocks+n <= m.limits.Both
}

// may tells whether a process may read, or write, each of n bytes from an address on.
func (p *proc) may(addr, n int, write bool) bool {
	for at := addr; at < addr+n; at++ {
		page := at / api.FrameSize
		in := func(a abs.Area) bool {
			return page >= a.First && page < a.First+a.Count && (a.Write || !write)
		}
		if !slices.ContainsFunc(p.areas, in) {
			return false
		}
	}
	return true
}

// read are n bytes of a process's memory.
func (p *proc) read(addr, n int) string {
	b := make([]byte, n)
	for i := range b {
		at := addr + i
		if f := p.pages[at/api.FrameSize]; f != nil {
			b[i] = f[at%api.FrameSize]
		}
	}
	return string(b)
}

// write writes bytes into a process's memory, and tells whether frames could be got for them.
func (m *Model) write(p *proc, addr int, b string) bool {
	if b == "" {
		return true
	}
	lacks := m.lacking(p, addr, len(b))
	if !m.mayGet(m.count(lacks), m.count(firsts()), m.limits.Frames) {
		return false
	}
	for page := range api.Pages {
		if lacks(p, page) {
			p.own(page)
		}
	}
	for i := range len(b) {
		at := addr + i
		p.pages[at/api.FrameSize][at%api.FrameSize] = b[i]
	}
	return true
}

// own gives a page a frame of its own, with the bytes that it had.
func (p *proc) own(page int) {
	f := &frame{}
	if old := p.pages[page]; old != nil {
		*f = *old
	}
	p.pages[page] = f
}

// dropMemory takes all areas and pages of a process.
func (p *proc) dropMemory() {
	p.areas, p.pages = nil, [api.Pages]*frame{}
}

// lay maps an area of n pages, and tells its first page, and whether there can be one.
func (p *proc) lay(n int) (int, bool) {
	for first := range api.Pages - n + 1 {
		meets := func(a abs.Area) bool { return a.First < first+n && first < a.First+a.Count }
		if len(p.areas) < api.MaxAreas && !slices.ContainsFunc(p.areas, meets) {
			p.areas = append(p.areas, abs.Area{First: first, Count: n, Write: true})
			slices.SortFunc(p.areas, func(a, b abs.Area) int { return a.First - b.First })
			return first, true
		}
	}
	return 0, false
}

// unmap takes an area of a process, and its pages.
func (p *proc) unmap(gone abs.Area) {
	p.areas = slices.DeleteFunc(p.areas, func(a abs.Area) bool { return a == gone })
	clear(p.pages[gone.First : gone.First+gone.Count])
}
