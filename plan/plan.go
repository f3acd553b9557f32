// Package plan: the tables by which a chart is run. They are made once, and not changed when it runs.
package plan

import (
	"charts/model"
	"charts/states"
)

// Plan is a chart with its tables.
type Plan struct {
	States    []State
	Histories []History
	finals    states.Set
	answers   map[string][]*Move // of each event that is awaited: the move with which each state answers it
}

// State is a state with the states around it and in it.
type State struct {
	Kind   model.Kind
	Name   string
	Done   string // the event that tells of its end
	Owner  int
	Parts  states.Set // what belongs to it directly, histories aside
	Inside states.Set // all that are in it
	Around states.Set // all that it is in
	With   states.Set // it, and what is entered with it
	Enter  []model.Action
	Leave  []model.Action
}

// New makes the tables of a chart that has no moves behind a delay.
func New(c *model.Chart) *Plan {
	p := &Plan{States: make([]State, len(c.States)), answers: map[string][]*Move{}}
	for i, s := range c.States {
		p.addState(i, s)
	}
	// From the last one on, since what is in a state stands behind it.
	for i := len(c.States) - 1; i >= 0; i-- {
		p.surround(i)
	}
	for i, s := range c.States {
		p.addHistory(i, s)
	}
	p.addMoves(c)
	return p
}

func (p *Plan) addState(i int, s model.State) {
	t := State{Kind: s.Kind, Name: s.Name, Done: model.DonePrefix + s.Name, Owner: s.Owner, Enter: s.Enter, Leave: s.Leave}
	if s.Owner != model.None {
		owner := &p.States[s.Owner]
		t.Around = owner.Around | states.One(s.Owner)
		if !s.Kind.IsHistory() {
			owner.Parts |= states.One(i)
		}
	}
	if s.Kind == model.Final {
		p.finals |= states.One(i)
	}
	p.States[i] = t
}

// surround fills in what is in the state, and what is entered with it.
func (p *Plan) surround(i int) {
	s := &p.States[i]
	s.With = states.One(i)
	for part := range s.Parts.Forward() {
		s.With |= p.States[part].With
		if s.Kind == model.Plain {
			break
		}
	}
	if s.Owner != model.None {
		p.States[s.Owner].Inside |= s.Inside | states.One(i)
	}
}

// Innermost tells which of these active states have none active in them.
func (p *Plan) Innermost(active states.Set) states.Set {
	out := active
	for i := range active.Forward() {
		out &^= p.States[i].Around
	}
	return out
}

// IsIn tells whether a state is in another one.
func (p *Plan) IsIn(inner, outer int) bool { return p.States[inner].Around.Has(outer) }

// AtEnd tells whether a state has come to its end.
func (p *Plan) AtEnd(i int, active states.Set) bool {
	s := &p.States[i]
	if s.Kind != model.Parallel {
		return s.Parts&p.finals&active != 0
	}
	for part := range s.Parts.Forward() {
		if !p.AtEnd(part, active) {
			return false
		}
	}
	return true
}
