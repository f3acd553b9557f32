package plan

import (
	"charts/api"
	"charts/model"
	"charts/states"
)

// Kept is what each history keeps, by its index in the chart; one that keeps something keeps at least one state.
type Kept [api.MaxStates]states.Set

// History is a history, and what it has to keep when its owner is left.
type History struct {
	Index int
	Owner int
	Keep  func(active states.Set) states.Set
}

func (p *Plan) addHistory(i int, s model.State) {
	if !s.Kind.IsHistory() {
		return
	}
	owner := p.States[s.Owner]
	keep := func(active states.Set) states.Set { return active & owner.Parts }
	if s.Kind == model.DeepHistory {
		keep = func(active states.Set) states.Set { return p.Innermost(active) & owner.Inside }
	}
	p.Histories = append(p.Histories, History{Index: i, Owner: s.Owner, Keep: keep})
}

// recall gives what a history brings back of what is in its owner: if it keeps nothing yet, what is entered with that.
func (p *Plan) recall(owner int, kept states.Set) states.Set {
	o := &p.States[owner]
	if kept == 0 {
		return o.With &^ states.One(owner)
	}
	var back states.Set
	for i := range kept.Forward() {
		back |= p.States[i].With | p.States[i].Around&o.Inside
	}
	return back
}
