package model

import "strconv"

// Action is one thing that is done when a state is entered or left, or when a move is taken.
type Action interface {
	// Names tells all names of events and timers in it.
	Names() []string
	// Text is how a chart's text has it behind its `do`.
	Text() string
	// Do has it done.
	Do(d Doer)
}

// Doer is by whom actions are done.
type Doer interface {
	Raise(event string)
	// Send starts a timer; if its name is "", it has none.
	Send(event, name string, delay uint64)
	Cancel(name string)
}

// Named is what all actions have in common.
type Named struct {
	Name string
}

// Names tells the one name.
func (n Named) Names() []string { return []string{n.Name} }

// Raise raises the event of its name.
type Raise struct {
	Named
}

// Text is the action's text.
func (r Raise) Text() string { return "raise " + r.Name }

// Do raises the event.
func (r Raise) Do(d Doer) { d.Raise(r.Name) }

// Send starts a timer without a name, for the event of its name.
type Send struct {
	Named
	Delay uint64
}

// Text is the action's text.
func (s Send) Text() string { return "send " + s.Name + " " + strconv.FormatUint(s.Delay, 10) }

// Do starts the timer.
func (s Send) Do(d Doer) { d.Send(s.Name, "", s.Delay) }

// SendAs starts a timer that has a name of its own.
type SendAs struct {
	Send
	As string
}

// Names tells the event's name and the timer's.
func (s SendAs) Names() []string { return append(s.Send.Names(), s.As) }

// Text is the action's text.
func (s SendAs) Text() string { return s.Send.Text() + " as " + s.As }

// Do starts the timer, by its name.
func (s SendAs) Do(d Doer) { d.Send(s.Name, s.As, s.Delay) }

// Cancel stops the timers of its name.
type Cancel struct {
	Named
}

// Text is the action's text.
func (c Cancel) Text() string { return "cancel " + c.Name }

// Do stops the timers.
func (c Cancel) Do(d Doer) { d.Cancel(c.Name) }
