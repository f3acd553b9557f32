// Package run: charts that run, turn by turn.
package run

import (
	"strings"

	"charts/api"
	"charts/model"
	"charts/plan"
	"charts/states"
	"charts/wheels"
)

// Machine is a chart that runs. Between turns nothing is raised.
type Machine struct {
	plan   *plan.Plan
	active states.Set
	kept   plan.Kept
	raised []string
	timers wheels.Wheels[timer] // they have the time at hand, too
	end    error                // ErrDone or ErrFuel, if it is ended
}

// Start starts a chart, and tells its first turn.
func Start(p *plan.Plan) (*Machine, []api.Step, error) {
	m := &Machine{plan: p}
	m.enter(p.States[0].With)
	m.answerRaised()
	return m, []api.Step{m.step("")}, m.outOfFuel()
}

// Event has an event answered in a turn.
func (m *Machine) Event(name string) ([]api.Step, error) {
	if m.end != nil {
		return nil, m.end
	}
	return []api.Step{m.turn(name)}, m.outOfFuel()
}

// turn is a whole turn, and what there is to tell of it.
func (m *Machine) turn(event string) api.Step {
	m.Raise(event)
	m.answerRaised()
	return m.step(event)
}

// answerRaised answers what is raised until there is nothing left, or the session is ended.
func (m *Machine) answerRaised() {
	for answered := 0; len(m.raised) > 0 && m.end == nil; answered++ {
		if answered == api.MaxSteps {
			m.end = api.ErrFuel
			break
		}
		event := m.raised[0]
		m.raised = m.raised[1:]
		m.answer(event)
	}
	m.raised = nil
}

// outOfFuel is the error beside steps.
func (m *Machine) outOfFuel() error {
	if m.end == api.ErrFuel {
		return m.end
	}
	return nil
}

func (m *Machine) step(event string) api.Step {
	names := make([]string, 0, m.active.Len())
	for i := range m.active.Forward() {
		names = append(names, m.plan.States[i].Name)
	}
	return api.Step{Event: strings.Clone(event), Time: m.Now(), States: names}
}

// Raise puts an event behind those that are raised already.
func (m *Machine) Raise(event string) { m.raised = append(m.raised, event) }

func (m *Machine) do(list []model.Action) {
	for _, a := range list {
		a.Do(m)
	}
}
