package run

import "charts/api"

const fullEvent = "full"

// timer is the event that it sends, and its name ("": it has none).
type timer struct {
	event string
	name  string
}

// Send starts a timer, if one more may run.
func (m *Machine) Send(event, name string, delay uint64) {
	if m.timers.Len() == api.MaxTimers {
		m.Raise(fullEvent)
		return
	}
	m.timers.Add(delay, timer{event: event, name: name})
}

// Cancel stops the timers of that name.
func (m *Machine) Cancel(name string) {
	m.timers.Drop(func(t timer) bool { return t.name == name })
}

// Clock has the timers fire that do so up to a reading of the clock, each in a turn.
func (m *Machine) Clock(raw uint64) ([]api.Step, error) {
	if m.end != nil {
		return nil, m.end
	}
	var steps []api.Step
	for t := range m.timers.Due(raw) {
		steps = append(steps, m.turn(t.event))
		if m.end == nil && len(steps) == api.MaxFires && m.timers.HasDue(raw) {
			m.end = api.ErrFuel
		}
		if m.end != nil {
			break
		}
	}
	return steps, m.outOfFuel()
}

// Now is the time at hand.
func (m *Machine) Now() uint64 { return m.timers.Now() }

// Pending tells which timers run, in the order in which they fire.
func (m *Machine) Pending() []api.Wait {
	var list []api.Wait
	for at, t := range m.timers.All() {
		list = append(list, api.Wait{Event: t.event, At: at})
	}
	return list
}
