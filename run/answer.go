package run

import (
	"slices"

	"charts/api"
	"charts/model"
	"charts/plan"
	"charts/states"
)

// answer answers one event.
func (m *Machine) answer(event string) {
	taken := m.choose(event)
	var left, entered states.Set
	for _, v := range taken {
		left |= m.leaves(v)
	}
	m.keep(left)
	m.leave(left)
	for _, v := range taken {
		m.do(v.Actions)
		entered |= v.Enters(&m.kept)
	}
	m.enter(entered)
}

func (m *Machine) choose(event string) []*plan.Move {
	var taken []*plan.Move
	for _, v := range m.plan.Wanted(event, m.plan.Innermost(m.active)) {
		taken = m.take(taken, v)
	}
	return taken
}

// take takes the move, too, unless one that it clashes with stands against it; those that don't give way to it.
func (m *Machine) take(taken []*plan.Move, v *plan.Move) []*plan.Move {
	clashes := func(t *plan.Move) bool { return m.leaves(t)&m.leaves(v) != 0 }
	stands := func(t *plan.Move) bool { return clashes(t) && !m.plan.IsIn(v.Own, t.Own) }
	if slices.ContainsFunc(taken, stands) {
		return taken
	}
	return append(slices.DeleteFunc(taken, clashes), v)
}

func (m *Machine) leaves(v *plan.Move) states.Set { return v.Leaves & m.active }

// keep lets the histories of what is going to be left keep what is active now.
func (m *Machine) keep(left states.Set) {
	for _, h := range m.plan.Histories {
		if left.Has(h.Owner) {
			m.kept[h.Index] = h.Keep(m.active)
		}
	}
}

func (m *Machine) leave(left states.Set) {
	for i := range left.Backward() {
		m.do(m.plan.States[i].Leave)
		m.active &^= states.One(i)
	}
}

func (m *Machine) enter(entered states.Set) {
	for i := range entered.Forward() {
		s := &m.plan.States[i]
		m.active |= states.One(i)
		m.do(s.Enter)
		if s.Kind == model.Final {
			m.finish(s)
		}
	}
}

// finish does what comes of a final state that is entered.
func (m *Machine) finish(s *plan.State) {
	if s.Owner == model.None {
		m.end = api.ErrDone
		return
	}
	p := &m.plan.States[s.Owner]
	m.Raise(p.Done)
	if p.Owner == model.None {
		return
	}
	around := &m.plan.States[p.Owner]
	if around.Kind == model.Parallel && m.plan.AtEnd(p.Owner, m.active) {
		m.Raise(around.Done)
	}
}
