package snap

import (
	"math/rand/v2"
	"slices"
	"testing"

	"imago/api"
	"imago/areas"
	"imago/desc"
	"imago/files"
	"imago/opens"
	"imago/pages"
	"imago/pipes"
	"imago/spans"
	"imago/sys"
)

// The schemas' texts, as the chapter and its example tell them.
const (
	textOf1 = "r(procs:l6(r(pid:i8,up:i8,prog:i8,ended:i8,status:i8,pc:i16,regs:l8(i16))),fds:l36(r(pid:i8,slot:i8,kind:i8,obj:i8,off:i8)),areas:l24(r(pid:i8,first:i8,count:i8)),pages:l96(r(pid:i8,page:i8,frame:i8)),files:l4(r(id:i8,size:i8,blocks:l4(i8))),pipes:l3(r(id:i8,data:t16)))"
	textOf2 = "r(procs:l6(r(pid:i8,up:i8,prog:i8,ended:i8,status:i8,pc:i16,regs:l8(i16))),slots:l36(r(pid:i8,slot:i8,open:i16)),spans:l24(r(pid:i8,first:i8,count:i8,prot:i8)),pages:l96(r(pid:i8,page:i8,frame:i8)),files:l4(r(id:i8,size:i8,blocks:l4(i8))),pipes:l3(r(id:i8,data:t16)),opens:l36(r(kind:i8,obj:i8,off:i8)))"
)

// header is what a version's bytes begin with.
func header(version int) string {
	text := of2(version, textOf1, textOf2)
	return "im" + string([]byte{byte(version), byte(len(text) / 256), byte(len(text) % 256)}) + text
}

// of2 is the first of two things in version 1, else the other one.
func of2[T any](version int, first, other T) T {
	if version == 1 {
		return first
	}
	return other
}

// plain writes bytes.
type plain []byte

func (p *plain) tag(kind, count int) { *p = append(*p, byte(kind), byte(count)) }

func (p *plain) bytes(numbers ...int) {
	for _, n := range numbers {
		p.tag(1, n)
	}
}

func (p *plain) word(n int) { *p = append(*p, 1, byte(n/256), byte(n%256)) }

// plainBytes are the bytes of a state that has any, by the words of the chapters 17 and 30.
func plainBytes(s sys.State) string {
	p := plain(header(s.Version))
	p.tag(4, of2(s.Version, 6, 7))
	p.tag(3, len(s.Procs))
	for _, x := range s.Procs {
		p.tag(4, 7)
		p.bytes(x.PID, x.Parent, x.Program, map[bool]int{true: 1}[x.Ended], x.Status)
		p.word(int(x.CPU.PC))
		p.tag(3, 8)
		for _, r := range x.CPU.R {
			p.word(int(r))
		}
	}
	if s.Version == 1 {
		p.tag(3, len(s.Desc))
		for _, x := range s.Desc {
			p.tag(4, 5)
			p.bytes(x.PID, x.Slot, x.Kind, x.Obj, x.Off)
		}
		p.tag(3, len(s.Areas))
		for _, x := range s.Areas {
			p.tag(4, 3)
			p.bytes(x.PID, x.First, x.Count)
		}
		p.common(s)
		return string(p)
	}
	p.tag(3, len(s.Slots))
	for _, x := range s.Slots {
		p.tag(4, 3)
		p.bytes(x.PID, x.Slot)
		below := 0 // so many objects stand ahead
		for _, o := range s.Opens {
			if o.ID < x.Open {
				below++
			}
		}
		p.word(below)
	}
	p.tag(3, len(s.Spans))
	for _, x := range s.Spans {
		p.tag(4, 4)
		p.bytes(x.PID, x.First, x.Count, x.Prot)
	}
	p.common(s)
	p.tag(3, len(s.Opens))
	for _, x := range inOrder(s.Opens) {
		p.tag(4, 3)
		p.bytes(x.Kind, x.Obj, x.Off)
	}
	return string(p)
}

// common writes what both versions have.
func (p *plain) common(s sys.State) {
	p.tag(3, len(s.Pages))
	for _, x := range s.Pages {
		p.tag(4, 3)
		p.bytes(x.PID, x.Page, x.Frame)
	}
	p.tag(3, len(s.Files))
	for _, x := range s.Files {
		p.tag(4, 3)
		p.bytes(x.ID, x.Size)
		p.tag(3, len(x.Blocks))
		p.bytes(x.Blocks...)
	}
	p.tag(3, len(s.Pipes))
	for _, x := range s.Pipes {
		p.tag(4, 2)
		p.bytes(x.ID)
		p.tag(2, len(x.Data))
		*p = append(*p, x.Data...)
	}
}

// inOrder are objects of unlike IDs, by these.
func inOrder(l []opens.Open) []opens.Open {
	l = slices.Clone(l)
	for i := range l {
		for j := range i {
			if l[i].ID < l[j].ID {
				l[i], l[j] = l[j], l[i]
			}
		}
	}
	return l
}

// plainRead is the state that is read of its bytes: that of a version alone, with objects' places as IDs.
func plainRead(s sys.State) sys.State {
	if s.Version == 1 {
		s.Opens, s.Slots, s.Spans = nil, nil, nil
		return s
	}
	s.Desc, s.Areas = nil, nil
	was := inOrder(s.Opens)
	s.Opens, s.Slots = slices.Clone(was), slices.Clone(s.Slots)
	for at := range was {
		s.Opens[at].ID = at
	}
	for i, x := range s.Slots {
		s.Slots[i].Open = slices.IndexFunc(was, func(o opens.Open) bool { return o.ID == x.Open })
	}
	return s
}

// dice throws what tests are made of; the same at each run.
type dice struct{ *rand.Rand }

func throw(seed uint64) dice { return dice{rand.New(rand.NewPCG(seed, 30))} }

// b is a number of 8 bits.
func (d dice) b() int { return []int{0, 1, 127, 128, 254, 255, d.IntN(256), d.IntN(256)}[d.IntN(8)] }

// w is a word.
func (d dice) w() uint16 { return uint16([]int{0, 1, 255, 256, 65535, d.IntN(65536)}[d.IntN(6)]) }

// some are from 0 to most things; not seldom none, or as many as there may be.
func some[T any](d dice, most int, one func() T) []T {
	n := d.IntN(most + 1)
	switch d.IntN(6) {
	case 0:
		return nil
	case 1:
		n = most
	}
	var l []T
	for range n {
		l = append(l, one())
	}
	return l
}

// text is a text of at most so many bytes.
func (d dice) text(most int) string {
	return string(some(d, most, func() byte { return byte(d.b()) }))
}

// state is one that has bytes: any numbers that fit, of objects any IDs, in any order.
func (d dice) state(version int) sys.State {
	s := sys.State{
		Version: version,
		Procs: some(d, 6, func() sys.Proc {
			p := sys.Proc{PID: d.b(), Parent: d.b(), Program: d.b(), Ended: d.IntN(2) == 0, Status: d.b(), CPU: api.CPU{PC: d.w()}}
			for i := range p.CPU.R {
				p.CPU.R[i] = d.w()
			}
			return p
		}),
		Pages: some(d, 96, func() pages.Entry { return pages.Entry{PID: d.b(), Page: d.b(), Frame: d.b()} }),
		Files: some(d, 4, func() files.Info { return files.Info{ID: d.b(), Size: d.b(), Blocks: some(d, 4, d.b)} }),
		Pipes: some(d, 3, func() pipes.Info { return pipes.Info{ID: d.b(), Data: d.text(16)} }),
	}
	if version == 1 {
		s.Desc = some(d, 36, func() desc.Entry { return desc.Entry{PID: d.b(), Slot: d.b(), Kind: d.b(), Obj: d.b(), Off: d.b()} })
		s.Areas = some(d, 24, func() areas.Area { return areas.Area{PID: d.b(), First: d.b(), Count: d.b()} })
		return s
	}
	s.Spans = some(d, 24, func() spans.Span { return spans.Span{PID: d.b(), First: d.b(), Count: d.b(), Prot: d.b()} })
	ids := d.Perm(100)
	s.Opens = some(d, 36, func() opens.Open {
		id := ids[0]
		ids = ids[1:]
		return opens.Open{ID: id*7 - 300, Kind: d.b(), Obj: d.b(), Off: d.b()}
	})
	if len(s.Opens) > 0 {
		s.Slots = some(d, 36, func() opens.Slot {
			return opens.Slot{PID: d.b(), Slot: d.b(), Open: s.Opens[d.IntN(len(s.Opens))].ID}
		})
	}
	return s
}

func TestManyStates(t *testing.T) { // 30.1, 30.2, 30.4: held against the plain bytes, over many states
	versions(t, func(t *testing.T, version int) {
		for seed := range uint64(400) {
			s := throw(seed).state(version)
			isState(t, s, plainBytes(s))
		}
	})
}

func TestManyBytes(t *testing.T) { // 30.2, 30.4: of any bytes that are read as a state that state has these and no others; all others are ErrForm
	versions(t, func(t *testing.T, version int) {
		read := 0
		for seed := range uint64(40) {
			d := throw(seed)
			b := []byte(plainBytes(d.state(version)))
			for range 120 {
				other := slices.Clone(b)
				switch d.IntN(4) {
				case 0:
					other = other[:d.IntN(len(other))]
				case 1:
					at := d.IntN(len(other) + 1)
					other = slices.Insert(other, at, byte(d.b()))
				case 2:
					other[d.IntN(len(other))] = byte(d.b())
				default:
					other[len(header(version))+d.IntN(len(other)-len(header(version)))] ^= 1 << d.IntN(8)
				}
				s, e := Read(string(other))
				if e == api.OK {
					read++
					isState(t, s, string(other))
				} else {
					isNone(t, string(other), api.ErrForm)
				}
			}
		}
		if read < 500 {
			t.Errorf("%d read", read)
		}
	})
}
