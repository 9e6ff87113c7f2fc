package model

import (
	"fmt"
	"slices"
	"strings"
	"testing"

	"imago/sys"
)

// told counts what was told: of a call's number its errors, each by its number, 0 of others, and -1 of a wait; of number 1 the statuses.
type told map[[2]int]int

func (o told) note(e sys.Event) {
	what := 0
	switch {
	case e.Kind == sys.Exited:
		what, e.Call = e.Result, 1
	case e.Kind == sys.Blocked:
		what = -1
	case e.Kind == sys.Done && e.Result > 65500:
		what = 65536 - e.Result
	}
	if e.Kind == sys.Done || e.Kind == sys.Blocked || e.Kind == sys.Exited {
		o[[2]int{e.Call, what}]++
	}
}

// missing are answers of which fewer than so many were told.
func (o told) missing(version, least int) string {
	wanted := [][]int{
		{1, 132, 137, 139, 0, 5}, {2, 0, 3}, {3, 0, 5, -1}, {4, 0, 2}, {5, 0, 1, 2, 3}, {6, 0, 1}, {7, 0, 1, 4, -1}, {8, 0, 1, 3, 6, -1},
		{9, 0, 3}, {10, 0, 1, 3}, {11, 0, 1}, {12, 0, 1, 3}, {13, 0, 1}, {14, 0}, {15, 0, 1}, {16, 0, 1}, {17, 0, 1},
	}
	if version == 1 {
		wanted = append(wanted[:14], []int{15, 7}, []int{16, 7}, []int{17, 7}, []int{0, 7})
	}
	var l []string
	for _, w := range wanted {
		for _, what := range w[1:] {
			if o[[2]int{w[0], what}] < least {
				l = append(l, fmt.Sprint(w[0], ":", what))
			}
		}
	}
	return strings.Join(l, " ")
}

// slot is a slot of a process that a call may be meant for.
func (d dice) slot(p *proc, n int) int {
	meant := map[int][]int{7: {2, 3}, 8: {2, 4}, 11: {2}, 16: {2}}[n]
	for _, slot := range d.Perm(len(p.slots)) {
		if o := p.slots[slot]; o != nil && (len(meant) == 0 || slices.Contains(meant, o.kind)) {
			return slot
		}
	}
	return d.IntN(7)
}

// pid is the number of a process, most often of one that is there.
func (d dice) pid(m *Model) int {
	l := m.all()
	if d.IntN(10) == 0 || len(l) == 0 {
		return d.IntN(20) - 6
	}
	return l[d.IntN(len(l))].PID
}

// pokes makes the next step of a process a call at random.
func (b *twins) pokes(d dice, pid int) {
	b.t.Helper()
	p := b.m.alive(pid)
	if p == nil {
		return
	}
	n, c := d.call(), p.CPU
	for i, v := range d.args(n) {
		c.R[i+1] = uint16(v)
	}
	if slices.Contains([]int{6, 7, 8, 10, 11, 15, 16}, n) && d.IntN(4) > 0 {
		c.R[1] = uint16(d.slot(p, n))
	}
	c.PC = uint16(n % 128 * 2)
	b.sets(pid, n/128, c)
}

// run does many steps; at change, if it is not below 0, both become version 2.
func (b *twins) run(d dice, steps, change int, o told) {
	b.t.Helper()
	b.sets(1, own, b.m.procs[0].CPU)
	for i := 0; i < steps && len(b.m.all()) > 0; i++ {
		if i == change {
			b.change()
		}
		pid := d.pid(b.m)
		if steps%2 == 0 && d.IntN(3) > 0 {
			b.pokes(d, pid)
		}
		o.note(b.step(pid))
	}
}

func TestMany(t *testing.T) { // 35.1 to 35.4, R6, P6: a system and a model that begin alike tell the same, behind a change, too
	for _, x := range []struct{ version, change int }{{1, -1}, {2, -1}, {1, 100}} {
		t.Run(fmt.Sprint(x), func(t *testing.T) {
			o := told{}
			for seed := range uint64(120) {
				d := throw(seed)
				var programs []string
				for range 4 {
					programs = append(programs, d.program())
				}
				b := twinsOf(t, x.version, d.IntN(9), d.IntN(9), 1, programs...)
				b.run(d, 500+int(seed%2), x.change, o)
			}
			version := x.version
			if x.change > 0 {
				version = 2
			}
			if l := o.missing(version, 8); l != "" {
				t.Errorf("too little was told: %s", l)
			}
		})
	}
}

func TestManyBoth(t *testing.T) { // 35.1, P6: likewise, where frames and blocks together are fewer than either kind's limits
	o := told{}
	for seed := range uint64(90) {
		d := throw(seed + 1000)
		both := d.IntN(9)
		frames := both - d.IntN(3) + d.IntN(9)
		b := twinsOf(t, 1+d.IntN(2), max(frames, 0), both+d.IntN(3), most-both, d.program(), d.program())
		b.run(d, 400+int(seed%2), -1, o)
	}
	for _, x := range [][2]int{{1, 137}, {7, 4}, {8, 3}} {
		if o[x] < 20 {
			t.Errorf("%v was told %d times", x, o[x])
		}
	}
}
