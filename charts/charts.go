// Package charts: timed statecharts: see DOC.md.
package charts

import (
	"charts/api"
	"charts/lower"
	"charts/plan"
	"charts/reader"
	"charts/run"
)

// Session is a chart that runs.
type Session struct {
	machine *run.Machine
}

// Start starts a chart (P7).
func Start(s string) (*Session, []api.Step, error) {
	c, err := reader.Read(s)
	if err != nil {
		return nil, nil, err
	}
	m, steps, err := run.Start(plan.New(lower.Delays(c)))
	return &Session{machine: m}, steps, err
}

// Lower writes a chart without moves behind a delay (P5).
func Lower(s string) (string, error) {
	c, err := reader.Read(s)
	if err != nil {
		return "", err
	}
	return lower.Text(c), nil
}

// Event hands in an event from outside (P9).
func (x *Session) Event(name string) ([]api.Step, error) {
	if x.neverStarted() {
		return nil, api.ErrDone
	}
	return x.machine.Event(name)
}

// Clock hands in a reading of the clock (P11).
func (x *Session) Clock(raw uint64) ([]api.Step, error) {
	if x.neverStarted() {
		return nil, api.ErrDone
	}
	return x.machine.Clock(raw)
}

// Now tells how late it is (P11).
func (x *Session) Now() uint64 {
	if x.neverStarted() {
		return 0
	}
	return x.machine.Now()
}

// Pending tells which timers run (P11).
func (x *Session) Pending() []api.Wait {
	if x.neverStarted() {
		return nil
	}
	return x.machine.Pending()
}

// neverStarted tells of a session that no chart was started for: it has nothing to run, as if it were at its end.
func (x *Session) neverStarted() bool { return x == nil || x.machine == nil }
