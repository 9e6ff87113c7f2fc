package desk

import (
	"slices"

	"imago/abs"
	"imago/api"
	"imago/model"
	"imago/upgrade"
	"imago/world"
)

// mostPaid is for how many capabilities an environment pays, its slices' among them (binds.Most: a layer that this one does not call).
const mostPaid = 42

// pair is a world, and what is held against it: a model of each environment that has programs.
type pair struct {
	world  *world.World
	models [api.MaxEnvs]*model.Model // environment 1's first; nil of one that has none
}

// Holds is the first operation that is not as it is to be.
func Holds(l []world.Op) int {
	p := &pair{world: fresh()}
	return p.first(l)
}

// first is the first operation that is not as it is to be; -1: there is none.
func (p *pair) first(l []world.Op) int {
	return slices.IndexFunc(l, func(o world.Op) bool { return !p.holds(o, p.world.Do(o)) })
}

// holds has the models follow an operation that was replied to so, and tells whether what is held is so behind it.
func (p *pair) holds(o world.Op, r world.Reply) bool {
	for _, holds := range p.held(o, r) {
		if !holds() {
			return false
		}
	}
	return true
}

// held is what is held behind an operation, in this order: the first one has the models follow.
func (p *pair) held(o world.Op, r world.Reply) []func() bool {
	return []func() bool{
		func() bool { return p.follow(o, r) },
		p.each(func(env int, m *model.Model) bool {
			return abs.Same(m.View(), abs.Of(p.world.System(env)))
		}),
		p.each(func(env int, m *model.Model) bool {
			frames, blocks := m.Used()
			return frames == p.has(env, api.Frame) && blocks == p.has(env, api.Block)
		}),
		p.spares,
	}
}

// each asks whether something is so of each environment that has a model.
func (p *pair) each(is func(env int, m *model.Model) bool) func() bool {
	return func() bool {
		for i, m := range p.models {
			if m != nil && !is(i+1, m) {
				return false
			}
		}
		return true
	}
}

// has is how many of a kind an environment has.
func (p *pair) has(env, kind int) int { return len(p.world.Kernel().List(env, kind)) }

// spares tells whether as many of each kind as all have are not spare.
func (p *pair) spares() bool {
	left := [...]int{allFrames, allBlocks, allSlices}
	for kind := api.Frame; kind <= api.Slice; kind++ {
		for env := 1; env <= api.MaxEnvs; env++ {
			left[kind-api.Frame] -= p.has(env, kind)
		}
	}
	return left == p.world.Kernel().Spare()
}

// follow has the models do what an operation does, and tells whether the event of a step is the model's.
func (p *pair) follow(o world.Op, r world.Reply) bool {
	if r.Err != api.OK {
		return true
	}
	switch o.What {
	case world.Begin:
		p.models[o.Env-1] = modelOf(o)
	case world.End:
		p.models[o.Env-1] = nil
	case world.Turn:
		return p.turned(o, r)
	}
	return true
}

// modelOf is the model of an environment that began; nil, if it has no programs.
func modelOf(o world.Op) *model.Model {
	l := model.Limits{
		Frames: o.Quota[api.Frame-1],
		Blocks: o.Quota[api.Block-1],
		Both:   mostPaid - o.Quota[api.Slice-1],
	}
	m, _ := model.New(o.Version, l, o.Programs) // an error, where there are none: others were told already
	return m
}

// turned has a model do what a turn did: a step, the last phase of a change, or nothing.
func (p *pair) turned(o world.Op, r world.Reply) bool {
	if r.Report.Phase == upgrade.Commit && r.Report.Err == api.OK {
		return p.models[r.Env-1].Switch() == api.OK
	}
	if isStep(r) {
		return r.Event == p.models[r.Env-1].Step(o.PID)
	}
	return true
}
