// Package model: a chart as it was read: its states, their moves and their actions.
package model

// Chart is a chart: its states in the order of the text.
type Chart struct {
	States []State
}

// None is the owner of a state of depth 0.
const None = -1

// DonePrefix stands ahead of a state's name in the event that tells of its end.
const DonePrefix = "done."

// State is a state with all that belongs to it. Other states are told by their index in the chart.
type State struct {
	Kind  Kind
	Name  string
	Depth int
	Owner int
	Parts []int
	Enter []Action
	Leave []Action
	Moves []Move
}

// Kind is what a state is.
type Kind int

const (
	Plain Kind = iota
	Parallel
	Final
	History
	DeepHistory
)

// IsHistory tells whether states of this kind only keep what was active.
func (k Kind) IsHistory() bool { return k == History || k == DeepHistory }

// Move is a move; the one behind a delay awaits the event of its own line.
type Move struct {
	Event   string
	Timed   bool
	Delay   uint64 // of a timed one
	To      string // "": it leads nowhere
	Actions []Action
}
