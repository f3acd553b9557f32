// Package run: charts that run, turn by turn.
package run

import (
	"math"
	"strings"

	"charts/api"
	"charts/model"
	"charts/plan"
	"charts/states"
	"charts/timers"
)

const fullEvent = "full"

// Machine is a chart that runs. Between turns nothing is raised.
type Machine struct {
	plan   *plan.Plan
	active states.Set
	kept   plan.Kept
	raised []string
	timers timers.Timers
	now    uint64
	end    error // ErrDone or ErrFuel, if it is ended
}

// Start starts a chart, and tells its first turn.
func Start(p *plan.Plan) (*Machine, []api.Step, error) {
	m := &Machine{plan: p}
	m.enter(p.States[0].With)
	m.answerRaised()
	return m, []api.Step{m.step("")}, m.outOfFuel()
}

// Event has an event answered in a turn.
func (m *Machine) Event(name string) ([]api.Step, error) {
	if m.end != nil {
		return nil, m.end
	}
	m.Raise(name)
	m.answerRaised()
	return []api.Step{m.step(name)}, m.outOfFuel()
}

// answerRaised answers what is raised until there is nothing left, or the session is ended.
func (m *Machine) answerRaised() {
	for answered := 0; len(m.raised) > 0 && m.end == nil; answered++ {
		if answered == api.MaxSteps {
			m.end = api.ErrFuel
			break
		}
		event := m.raised[0]
		m.raised = m.raised[1:]
		m.answer(event)
	}
	m.raised = nil
}

// outOfFuel is the error beside the step of a turn.
func (m *Machine) outOfFuel() error {
	if m.end == api.ErrFuel {
		return m.end
	}
	return nil
}

func (m *Machine) step(event string) api.Step {
	names := make([]string, 0, m.active.Len())
	for i := range m.active.Forward() {
		names = append(names, m.plan.States[i].Name)
	}
	return api.Step{Event: strings.Clone(event), Time: m.now, States: names}
}

// Raise puts an event behind those that are raised already.
func (m *Machine) Raise(event string) { m.raised = append(m.raised, event) }

// Send starts a timer, if one more may run.
func (m *Machine) Send(event, name string, delay uint64) {
	if !m.timers.Start(timers.Timer{Event: event, Name: name, At: later(m.now, delay)}) {
		m.Raise(fullEvent)
	}
}

// Cancel stops the timers of that name.
func (m *Machine) Cancel(name string) { m.timers.Stop(name) }

// later is the time behind a delay, or the greatest time.
func later(now, delay uint64) uint64 {
	if delay > math.MaxUint64-now {
		return math.MaxUint64
	}
	return now + delay
}

func (m *Machine) do(list []model.Action) {
	for _, a := range list {
		a.Do(m)
	}
}
