// Package timers: the timers of a session.
package timers

import (
	"slices"

	"charts/api"
)

// Timer is a timer: the event that it sends, its name ("": it has none), and when it fires.
type Timer struct {
	Event string
	Name  string
	At    uint64
}

// Timers are those that run, in the order in which they were started.
type Timers struct {
	running []Timer
}

// Start starts a timer; it answers false, and does not, if that would be one too many.
func (l *Timers) Start(t Timer) bool {
	if len(l.running) == api.MaxTimers {
		return false
	}
	l.running = append(l.running, t)
	return true
}

// Stop stops all timers of that name.
func (l *Timers) Stop(name string) {
	l.running = slices.DeleteFunc(l.running, func(t Timer) bool { return t.Name == name })
}
