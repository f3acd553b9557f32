package lower

import (
	"strings"

	"charts/model"
)

// Text writes the chart without moves behind a delay.
func Text(c *model.Chart) string {
	var w writer
	for _, s := range Delays(c).States {
		w.state(s)
	}
	return w.String()
}

type writer struct {
	strings.Builder
}

func (w *writer) state(s model.State) {
	w.line(s.Depth, stateText(s), nil)
	if len(s.Enter) > 0 {
		w.line(s.Depth+1, "enter", s.Enter)
	}
	if len(s.Leave) > 0 {
		w.line(s.Depth+1, "leave", s.Leave)
	}
	for _, m := range s.Moves {
		w.line(s.Depth+1, moveText(m), m.Actions)
	}
}

func (w *writer) line(depth int, head string, actions []model.Action) {
	w.WriteString(strings.Repeat(" ", depth))
	w.WriteString(head)
	for _, a := range actions {
		w.WriteString(" do ")
		w.WriteString(a.Text())
	}
	w.WriteByte('\n')
}

func stateText(s model.State) string {
	switch s.Kind {
	case model.Parallel:
		return "parallel " + s.Name
	case model.Final:
		return "final " + s.Name
	case model.History:
		return "history " + s.Name
	case model.DeepHistory:
		return "history " + s.Name + " deep"
	}
	return "state " + s.Name
}

func moveText(m model.Move) string {
	if m.To == "" {
		return "on " + m.Event
	}
	return "on " + m.Event + " to " + m.To
}
