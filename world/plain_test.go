package world

import (
	"slices"
	"strings"
	"testing"

	"imago/abs"
	"imago/api"
	"imago/caps"
	"imago/kern"
	"imago/rest"
	"imago/snap"
	"imago/sys"
	"imago/upgrade"
)

// plain is a world by the table's words: a kernel, and managers.
type plain struct {
	k        *kern.Kernel
	managers map[int]*upgrade.Manager
}

func (p *plain) do(o Op) Reply {
	var r Reply
	m := p.managers[o.Env]
	switch o.What {
	case 1:
		r.Err = p.begin(o)
	case 2:
		if r.Err = p.k.Close(o.Env); r.Err == api.OK {
			delete(p.managers, o.Env)
		}
	case 3:
		r.Env = p.k.Turn(o.N)
		if p.managers[r.Env] != nil {
			r.Event, r.Report = p.managers[r.Env].Slice(o.PID)
		}
	case 4, 5:
		switch {
		case m == nil:
			r.Err = api.ErrNone
		case o.What == 4:
			r.Err = m.Ask(o.Wish)
		default:
			r.Err = m.Fail(o.N)
		}
	case 6:
		if m != nil {
			return Reply{Err: api.ErrState}
		}
		r.Reply = p.k.Do(o.Env, o.Call)
		r.Err = r.Reply.Err
	default:
		r.Err = api.ErrArg
	}
	return r
}

// begin begins an environment. Whether there can be a manager is tried elsewhere first, so that nothing is left, if there can't.
func (p *plain) begin(o Op) api.Errno {
	if e := p.k.Open(o.Env, o.Version, o.Quota); e != api.OK {
		return e
	}
	if len(o.Programs) > 0 {
		if _, e := upgrade.New(rest.Place{Programs: o.Programs}, o.Version); e != api.OK {
			p.k.Close(o.Env)
			return e
		}
	}
	for range o.Quota[2] {
		p.k.Do(o.Env, kern.Call{What: kern.Bind, A: api.Slice})
	}
	if len(o.Programs) > 0 {
		p.managers[o.Env], _ = upgrade.New(rest.Place{Kernel: p.k, Env: o.Env, Programs: o.Programs}, o.Version)
	}
	return api.OK
}

// wish is any wish.
func (d dice) wish() upgrade.Wish {
	scripts := []string{snap.Script, snap.Script, snap.Script, "drop files", strings.Replace(snap.Script, "i8 3", "i8 1", 1)}
	return upgrade.Wish{Script: scripts[d.IntN(len(scripts))], Tries: 1 + d.IntN(6), Space: 12000 >> d.IntN(8)}
}

// handle is any handle: most often one that is a root.
func (d dice) handle(k *kern.Kernel) caps.Handle {
	if d.IntN(4) == 0 {
		return caps.Handle{Slot: d.IntN(30), Gen: d.IntN(4)}
	}
	return k.Root(1+d.IntN(3), d.IntN(16))
}

// call is any call of a kernel.
func (d dice) call(k *kern.Kernel) kern.Call {
	c := kern.Call{What: kern.Bind, A: 1 + d.IntN(3)}
	if d.IntN(2) == 0 {
		c = kern.Call{What: d.IntN(16), A: d.IntN(5), B: 1 + d.IntN(3), H: d.handle(k), H2: d.handle(k), S: "abcdefghijklmnop"}
	}
	if c.What == kern.Write {
		c.S = c.S[:8]
	}
	return c
}

// op is any operation of an environment.
func (d dice) op(k *kern.Kernel, env int, programs []string) Op {
	o := Op{What: Turn, Env: env, N: d.IntN(40) - 20, PID: 1 + d.IntN(6)}
	switch x := d.IntN(100); {
	case x < 2:
		o.What = Begin
		o.Version = 1 + d.IntN(9)/7
		o.Quota = [3]int{d.IntN(8), d.IntN(8), d.IntN(4)}
		if d.IntN(3) > 0 {
			o.Programs = programs
		}
		if d.IntN(10) == 0 {
			o.Programs = make([]string, 9)
		}
		if d.IntN(10) == 0 {
			o.Version, o.Quota[d.IntN(3)] = d.IntN(4), d.IntN(20)-1
		}
	case x == 2 && d.IntN(4) == 0:
		o.What = End
	case x < 6:
		o.What, o.Wish = Ask, d.wish()
	case x < 8:
		o.What, o.N = Fail, d.IntN(8)
	case x < 40:
		o.What, o.Call = Raw, d.call(k)
	case x == 40:
		o.What = d.IntN(10) - 1
	}
	return o
}

func TestMany(t *testing.T) { // 34.1, 34.2, 34.4, 34.5: held against the plain words, over many operations of all environments; behind each one nothing has leaked
	const phase = 100 // told beside what operations do: a turn that was one
	told := map[[2]int]int{}
	for seed := range uint64(60) {
		d := throw(seed)
		b := start(t, 16, 16, 6)
		k, _ := kern.New(16, 16, 6)
		p := &plain{k, map[int]*upgrade.Manager{}}
		programs := d.programs(t)
		for i := range 1200 {
			o := d.op(k, d.IntN(40)%13%5, programs)
			r := b.w.Do(o)
			if want := p.do(o); r != want {
				t.Fatalf("operation %d of %d: %v: %v, not %v", i, seed, o, r, want)
			}
			told[[2]int{o.What, int(r.Err)}]++
			if r.Report.Phase > 0 {
				told[[2]int{phase, r.Report.Version}]++
			}
			b.sound()
			if i%20 == 0 || r.Report.Phase > 0 || o.What < Turn {
				b.is(p)
			}
		}
		for env := 1; env <= api.MaxEnvs; env++ {
			b.w.Do(Op{What: End, Env: env})
		}
		if b.w.Kernel().Spare() != b.totals {
			t.Fatalf("spare: %v of %v", b.w.Kernel().Spare(), b.totals)
		}
		b.sound()
	}
	for _, x := range [][2]int{
		{Begin, 0}, {Begin, int(api.ErrArg)}, {Begin, int(api.ErrSame)}, {Begin, int(api.ErrFull)}, {End, 0}, {End, int(api.ErrNone)}, {Turn, 0},
		{Ask, 0}, {Ask, int(api.ErrArg)}, {Ask, int(api.ErrState)}, {Ask, int(api.ErrNone)}, {Fail, 0}, {Fail, int(api.ErrArg)}, {Fail, int(api.ErrNone)},
		{Raw, 0}, {Raw, int(api.ErrState)}, {Raw, int(api.ErrNone)}, {Raw, int(api.ErrStale)}, {Raw, int(api.ErrQuota)}, {0, int(api.ErrArg)}, {phase, 1}, {phase, 2},
	} {
		if told[x] < 10 {
			t.Errorf("%v: %d times", x, told[x])
		}
	}
}

// is wants that a world is as the plain one.
func (b *box) is(p *plain) {
	b.t.Helper()
	if now, want := pictureOf(b.w.Kernel()), pictureOf(p.k); now != want {
		b.t.Fatalf("%v, not %v", now, want)
	}
	for env := range 5 {
		s, m := b.w.System(env), p.managers[env]
		if (s == nil) != (m == nil) || b.w.Busy(env) != m.Busy() || !identical(s.State(), m.System().State()) {
			b.t.Fatalf("environment %d: %v, not %v", env, s.State(), m.System().State())
		}
	}
}

// subject is an environment that shares nothing, in a world, and the handles that it was given.
type subject struct {
	*box
	env  int
	mine []caps.Handle
}

// deed is what a subject does: told without numbers that hang on whose else a machine is.
type deed struct {
	op     Op
	slice  int // of its own slices the one whose turn it is
	h1, h2 int // of its handles
}

// deed is any deed: of an environment with Programs, or of one without.
func (d dice) deed(env int, programs []string) deed {
	x := deed{op: Op{What: Turn, Env: env, PID: 1 + d.IntN(6)}, slice: d.IntN(2), h1: d.IntN(9), h2: d.IntN(9)}
	begin := Op{What: Begin, Env: env, Version: 1, Quota: [3]int{6, 5, 2}, Programs: programs}
	switch n := d.IntN(60); {
	case n == 0:
		x.op = begin
	case n == 1 && d.IntN(6) == 0:
		x.op = Op{What: End, Env: env}
	case n < 4:
		x.op = Op{What: Ask, Env: env, Wish: d.wish()}
	case n < 6:
		x.op = Op{What: Fail, Env: env, N: d.IntN(8)}
	case n < 8 || programs == nil && n < 50:
		x.op = Op{What: Raw, Env: env, Call: d.ownCall()}
	}
	return x
}

// ownCall is a call of an environment that shares nothing.
func (d dice) ownCall() kern.Call {
	whats := []int{kern.Bind, kern.Bind, kern.Bind, kern.Free, kern.Revoke, kern.Get, kern.Set, kern.Copy, kern.Page, kern.Load, kern.Read, kern.Write, 0, 15}
	c := kern.Call{What: whats[d.IntN(len(whats))], A: d.IntN(17), B: d.IntN(258) - 1, S: strings.Repeat(string(rune('a'+d.IntN(26))), 16)}
	switch c.What {
	case kern.Bind:
		c.A = 1 + d.IntN(3)
	case kern.Write:
		c.S = c.S[8:]
	}
	return c
}

// does does it, and tells what is answered, without numbers that hang on whose else the machine is.
func (s *subject) does(x deed) Reply {
	o := x.op
	if o.What == Turn {
		own := s.w.Kernel().List(s.env, api.Slice)
		if len(own) <= x.slice {
			return Reply{}
		}
		o.N = own[x.slice]
	}
	if x.h1 < len(s.mine) {
		o.Call.H = s.mine[x.h1]
	}
	if x.h2 < len(s.mine) {
		o.Call.H2 = s.mine[x.h2]
	}
	r := s.w.Do(o)
	if o.What == Raw && o.Call.What == kern.Bind && r.Err == api.OK {
		s.mine = append(s.mine, r.Reply.H)
		s.mine = s.mine[max(0, len(s.mine)-8):]
		r.Reply.H, r.Reply.N = caps.Handle{}, 0
	}
	return r
}

// others do something that is not the subject's: they may guess its handles, and send or share what they have to it.
func (s *subject) others(d dice, programs []string) {
	k := s.w.Kernel()
	env := 1 + (s.env+d.IntN(2))%3
	o := d.op(k, env, programs)
	if o.What == Turn && k.Turn(o.N) == s.env {
		return
	}
	if d.IntN(3) == 0 && len(s.mine) > 0 {
		o.Call.H = s.mine[d.IntN(len(s.mine))]
	}
	if o.Call.What == kern.Share || o.Call.What == kern.Send {
		o.Call.A = s.env
	}
	if o.What != Begin || !slices.ContainsFunc(o.Quota[:], func(n int) bool { return n > 7 }) {
		s.w.Do(o)
	}
}

func TestApart(t *testing.T) { // 34.3, P4: what an environment that shares nothing is answered is the same, whatever others do, and so is its system
	const answered = 100 // told beside what operations and calls do: a process's call
	told := map[int]int{}
	changes := 0
	for seed := range uint64(90) {
		d, noise := throw(seed), throw(1000+seed)
		programs := d.programs(t)
		env := 1 + d.IntN(3)
		alone, among := &subject{start(t, 20, 20, 8), env, nil}, &subject{start(t, 20, 20, 8), env, nil}
		own := programs
		if seed%3 == 0 {
			own = nil
		}
		begin := deed{op: Op{What: Begin, Env: env, Version: 1, Quota: [3]int{6, 5, 2}, Programs: own}}
		for i := range 900 {
			for range noise.IntN(6) {
				among.others(noise, programs)
			}
			x := begin
			if i > 0 {
				x = d.deed(env, own)
			}
			want, r := alone.does(x), among.does(x)
			if r != want {
				t.Fatalf("deed %d of %d: %v: %v, not %v", i, seed, x, r, want)
			}
			if a, b := alone.w.System(env), among.w.System(env); !abs.Same(abs.Of(a), abs.Of(b)) || alone.w.Busy(env) != among.w.Busy(env) {
				t.Fatalf("deed %d of %d: %v, not %v", i, seed, b.State(), a.State())
			}
			told[x.op.What]++
			if want.Report.Phase == upgrade.Commit && want.Report.Err == api.OK {
				changes++
			}
			if x.op.What == Raw && want.Reply.Err == api.OK {
				told[-x.op.Call.What]++
			}
			if want.Event.Kind == sys.Done {
				told[answered]++
			}
		}
		among.sound()
	}
	for _, what := range []int{Begin, End, Turn, Ask, Fail, Raw, -kern.Bind, -kern.Free, -kern.Get, -kern.Set, -kern.Copy, -kern.Page, -kern.Load, -kern.Read, -kern.Write, answered} {
		if told[what] < 10 {
			t.Errorf("%d: %d times", what, told[what])
		}
	}
	if changes < 10 {
		t.Errorf("%d changes", changes)
	}
}
