package kern

import (
	"slices"
	"testing"

	"imago/api"
	"imago/caps"
)

// record is a capability of the plain model.
type record struct {
	h                                  caps.Handle
	owner, payer, kind, number, rights int
	above                              *record // nil of a root
}

// plain is a kernel in the plainest way: a list of all capabilities, and maps of all else.
type plain struct {
	totals   [3]int
	quotas   map[int][3]int // of those that are open
	versions map[int]int
	live     []*record
	gone     []caps.Handle // the last ones
	given    map[caps.Handle]int
	frames   map[int]string
	blocks   map[int]string
	mail     map[int][]int // by whom it is for: the sender times 65536, and the word
	calls    map[int][]int // senders
}

func newPlain(totals [3]int) *plain {
	return &plain{
		totals: totals, quotas: map[int][3]int{}, versions: map[int]int{}, given: map[caps.Handle]int{},
		frames: map[int]string{}, blocks: map[int]string{}, mail: map[int][]int{}, calls: map[int][]int{},
	}
}

func (p *plain) find(env int, h caps.Handle) *record {
	at := slices.IndexFunc(p.live, func(r *record) bool { return r.h == h && r.owner == env })
	if at < 0 {
		return nil
	}
	return p.live[at]
}

func (p *plain) count(has func(r *record) bool) int {
	n := 0
	for _, r := range p.live {
		if has(r) {
			n++
		}
	}
	return n
}

func (p *plain) pays(env int) int {
	return p.count(func(r *record) bool { return r.payer == env })
}

func (p *plain) has(env, kind int) int {
	return p.count(func(r *record) bool { return r.above == nil && r.owner == env && r.kind == kind })
}

// root is a resource's root, or nil.
func (p *plain) root(kind, number int) *record {
	at := slices.IndexFunc(p.live, func(r *record) bool { return r.above == nil && r.kind == kind && r.number == number })
	if at < 0 {
		return nil
	}
	return p.live[at]
}

// fell takes those that are meant out of the model, and what is below them, and tells how many.
func (p *plain) fell(meant func(r *record) bool) int {
	var stay []*record
	n := 0
	for _, r := range p.live {
		o := r
		for o != nil && !meant(o) {
			o = o.above
		}
		if o == nil {
			stay = append(stay, r)
			continue
		}
		n++
		p.gone = append(p.gone, r.h)
	}
	p.live, p.gone = stay, p.gone[max(0, len(p.gone)-60):]
	return n
}

func (p *plain) open(env, version int, quota [3]int) api.Errno {
	if env < 1 || env > 3 || version < 1 || version > 2 {
		return api.ErrArg
	}
	if p.versions[env] != 0 {
		return api.ErrSame
	}
	if slices.Min(quota[:]) < 0 {
		return api.ErrArg
	}
	sum := quota
	for _, q := range p.quotas {
		for i := range sum {
			sum[i] += q[i]
		}
	}
	for i := range sum {
		if sum[i] > p.totals[i] {
			return api.ErrFull
		}
	}
	p.quotas[env], p.versions[env] = quota, version
	return api.OK
}

func (p *plain) close(env int) api.Errno {
	if p.versions[env] == 0 {
		return api.ErrNone
	}
	delete(p.quotas, env)
	delete(p.versions, env)
	delete(p.mail, env)
	delete(p.calls, env)
	for to, mail := range p.mail {
		p.mail[to] = slices.DeleteFunc(mail, func(n int) bool { return n/65536 == env })
	}
	p.fell(func(r *record) bool { return r.owner == env })
	return api.OK
}

// put puts a record with the handle that was answered, and tells whether that is one that was never given before.
func (p *plain) put(r record) bool {
	p.live = append(p.live, &r)
	p.given[r.h]++
	return p.given[r.h] == 1
}

// number is what a call's handle names.
func (p *plain) number(env int, h caps.Handle, kind int) (int, api.Errno) {
	r := p.find(env, h)
	switch {
	case r == nil:
		return 0, api.ErrStale
	case r.kind != kind:
		return 0, api.ErrArg
	case r.rights&caps.Use == 0:
		return 0, api.ErrRight
	}
	return r.number, api.OK
}

// do is what a call is answered; handle is the one that the kernel answered, which no model can know ahead.
func (p *plain) do(env int, c Call, handle caps.Handle) Reply {
	if p.versions[env] == 0 {
		return Reply{Err: api.ErrNone}
	}
	switch c.What {
	case 1:
		return p.bind(env, c.A, handle)
	case 2, 3, 4:
		return p.onCaps(env, c, handle)
	case 5, 6, 7, 8, 9:
		return p.onFrame(env, c)
	case 10, 11:
		return p.onBlock(env, c)
	case 12, 13, 14:
		return p.onMail(env, c)
	}
	return Reply{Err: api.ErrArg}
}

func (p *plain) bind(env, kind int, handle caps.Handle) Reply {
	switch {
	case kind < 1 || kind > 3:
		return Reply{Err: api.ErrArg}
	case p.has(env, kind) == p.quotas[env][kind-1]:
		return Reply{Err: api.ErrQuota}
	case p.pays(env) == mostPaid:
		return Reply{Err: api.ErrFull}
	}
	number := 0
	for p.root(kind, number) != nil {
		number++
	}
	switch kind {
	case 1:
		p.frames[number] = zeros(16)
	case 2:
		p.blocks[number] = zeros(8)
	}
	if !p.put(record{h: handle, owner: env, payer: env, kind: kind, number: number, rights: both}) {
		return Reply{Err: -1}
	}
	return Reply{N: number, H: handle}
}

func (p *plain) onCaps(env int, c Call, handle caps.Handle) Reply {
	r := p.find(env, c.H)
	switch {
	case r == nil:
		return Reply{Err: api.ErrStale}
	case c.What == 4:
		return Reply{N: p.fell(func(o *record) bool { return o.above == r })}
	case c.What == 2 && r.above != nil:
		return Reply{Err: api.ErrRight}
	case c.What == 2:
		p.fell(func(o *record) bool { return o == r })
		return Reply{}
	case p.versions[c.A] == 0:
		return Reply{Err: api.ErrNone}
	case p.pays(env) == mostPaid:
		return Reply{Err: api.ErrFull}
	case c.B < 1 || c.B > 3:
		return Reply{Err: api.ErrArg}
	case r.rights&caps.Grant == 0 || c.B&^r.rights != 0:
		return Reply{Err: api.ErrRight}
	}
	if !p.put(record{h: handle, owner: c.A, payer: env, kind: r.kind, number: r.number, rights: c.B, above: r}) {
		return Reply{Err: -1}
	}
	return Reply{H: handle}
}

func (p *plain) onFrame(env int, c Call) Reply {
	if c.What == 6 && (c.B < 0 || c.B > 255) {
		return Reply{Err: api.ErrArg}
	}
	n, e := p.number(env, c.H, 1)
	if e != api.OK {
		return Reply{Err: e}
	}
	if (c.What == 5 || c.What == 6) && (c.A < 0 || c.A > 15) {
		return Reply{Err: api.ErrArg}
	}
	switch c.What {
	case 5:
		return Reply{N: int(p.frames[n][c.A])}
	case 6:
		b := []byte(p.frames[n])
		b[c.A] = byte(c.B)
		p.frames[n] = string(b)
	case 7:
		to, e := p.number(env, c.H2, 1)
		if e != api.OK {
			return Reply{Err: e}
		}
		p.frames[to] = p.frames[n]
	case 8:
		return Reply{S: p.frames[n]}
	case 9:
		if len(c.S) > 16 {
			return Reply{Err: api.ErrLong}
		}
		p.frames[n] = filled(c.S, 16)
	}
	return Reply{}
}

func (p *plain) onBlock(env int, c Call) Reply {
	n, e := p.number(env, c.H, 2)
	switch {
	case e != api.OK:
		return Reply{Err: e}
	case c.What == 10:
		return Reply{S: p.blocks[n]}
	case len(c.S) > 8:
		return Reply{Err: api.ErrLong}
	}
	p.blocks[n] = c.S + p.blocks[n][len(c.S):]
	return Reply{}
}

func (p *plain) onMail(env int, c Call) Reply {
	switch {
	case c.What == 13 && len(p.mail[env]) == 0:
		return Reply{Err: api.ErrNone}
	case c.What == 13:
		first := p.mail[env][0]
		p.mail[env] = p.mail[env][1:]
		return Reply{N: first}
	case c.What == 14 && len(p.calls[env]) == 0:
		return Reply{Err: api.ErrState}
	case c.What == 14:
		first := p.calls[env][0]
		p.calls[env] = p.calls[env][1:]
		return Reply{N: 3*65536 + first}
	case p.versions[c.A] == 0:
		return Reply{Err: api.ErrNone}
	case c.B < 0 || c.B > 65535:
		return Reply{Err: api.ErrArg}
	case len(p.mail[c.A]) == 4:
		return Reply{Err: api.ErrFull}
	}
	p.mail[c.A] = append(p.mail[c.A], env*65536+c.B)
	p.calls[c.A] = append(p.calls[c.A], env)
	if len(p.calls[c.A]) > 4 {
		p.calls[c.A] = p.calls[c.A][1:]
	}
	return Reply{}
}

// some is a handle, mostly of one that is there, and an environment, mostly its owner.
func (p *plain) some(next func(n int) int) (int, caps.Handle) {
	if len(p.live) == 0 || next(20) == 0 {
		return next(5), caps.Handle{Slot: next(130) - 1, Gen: next(4)}
	}
	if len(p.gone) > 0 && next(20) == 0 {
		return next(5), p.gone[next(len(p.gone))]
	}
	r := p.live[next(len(p.live))]
	if next(12) == 0 {
		return next(5), r.h
	}
	return r.owner, r.h
}

// someCall is a call that is mostly right.
func (p *plain) someCall(next func(n int) int) (int, Call) {
	env, h := p.some(next)
	_, h2 := p.some(next)
	c := Call{What: next(16), A: next(18) - 1, B: next(258) - 1, H: h, H2: h2}
	switch c.What {
	case 1:
		c.A = next(20) % 4
	case 2, 4:
		if next(4) > 0 { // else too little would be there
			c.What = 3
		}
	case 12:
		env, c.A, c.B = 1+next(3), next(10)%5, next(66000)-100
	case 9:
		c.S = bytesOf(next(25), next)
	case 11:
		c.S = bytesOf(next(14), next)
	}
	if c.What == 3 {
		c.A, c.B = 1+next(20)%4, 3-max(0, next(12)-8)
	}
	return env, c
}

// step makes one call of both, and tells the kernel's error, and whether they answer the same.
func step(k *Kernel, p *plain, next func(n int) int) (api.Errno, bool) {
	switch what := next(300); {
	case what < 1:
		env := next(5)
		e := k.Close(env)
		return e, e == p.close(env)
	case what < 20:
		env, version, quota := next(5), next(12)%4, [3]int{next(25) - 1, next(25), next(12)}
		e := k.Open(env, version, quota)
		return e, e == p.open(env, version, quota)
	case what < 30:
		env, version, want := next(5), next(4), api.OK
		switch {
		case p.versions[env] == 0:
			want = api.ErrNone
		case version < 1 || version > 2:
			want = api.ErrArg
		default:
			p.versions[env] = version
		}
		e := k.Change(env, version)
		return e, e == want
	}
	env, c := p.someCall(next)
	r := k.Do(env, c)
	return r.Err, r == p.do(env, c, r.H)
}

// alike tells whether both have the same of everything.
func alike(k *Kernel, p *plain) bool {
	for kind := 1; kind <= 3; kind++ {
		free := 0
		var lists [5][]int
		for number := range p.totals[kind-1] {
			r := p.root(kind, number)
			if r == nil {
				free++
				r = &record{}
			}
			lists[r.owner] = append(lists[r.owner], number)
			if k.Root(kind, number) != r.h || kind == 3 && k.Turn(number-3*p.totals[2]) != r.owner {
				return false
			}
			if kind == 1 && r.owner != 0 && k.Do(r.owner, Call{What: Page, H: r.h}).S != p.frames[number] {
				return false
			}
			if kind == 2 && r.owner != 0 && k.Do(r.owner, Call{What: Read, H: r.h}).S != p.blocks[number] {
				return false
			}
		}
		for env := 1; env <= 4; env++ {
			if !slices.Equal(k.List(env, kind), lists[env]) {
				return false
			}
		}
		if k.Spare()[kind-1] != free {
			return false
		}
	}
	for env := range 5 {
		v, e := k.Version(env)
		if v != p.versions[env] || (e == api.OK) != (v != 0) || (e != api.OK) != (e == api.ErrNone) {
			return false
		}
	}
	return true
}

func TestManySteps(t *testing.T) { // 14.1 to 14.6, R4, R6: held against the plain model, over many calls
	totals := [3]int{40, 30, 20}
	for seed := range uint32(4) {
		k, p := opened(t, totals), newPlain(totals)
		next := numbers(seed)
		told := map[api.Errno]int{}
		fullest := 0
		for i := range 10000 {
			e, same := step(k, p, next)
			if !same || !alike(k, p) {
				t.Fatalf("step %d differs", i)
			}
			told[e]++
			fullest = max(fullest, len(p.live))
		}
		for _, e := range []api.Errno{api.OK, api.ErrArg, api.ErrLong, api.ErrFull, api.ErrNone, api.ErrState, api.ErrSame, api.ErrStale, api.ErrRight, api.ErrQuota} {
			if told[e] < 20 {
				t.Errorf("too little was asked: %v %d times", e, told[e])
			}
		}
		if fullest < mostPaid {
			t.Errorf("too little was there: %d", fullest)
		}
	}
}
