// Package lower: charts without moves behind a delay, and their texts.
package lower

import (
	"slices"

	"charts/model"
)

// Delays gives the chart with timers in place of moves behind a delay; the one handed in stays as it is.
func Delays(c *model.Chart) *model.Chart {
	states := slices.Clone(c.States)
	for i := range states {
		lowerState(&states[i])
	}
	return &model.Chart{States: states}
}

func lowerState(s *model.State) {
	// Cloned, since the state is a copy that still shares its lists with the one it was copied from.
	s.Enter, s.Leave, s.Moves = slices.Clone(s.Enter), slices.Clone(s.Leave), slices.Clone(s.Moves)
	for i, m := range s.Moves {
		if !m.Timed {
			continue
		}
		timer := model.Named{Name: m.Event}
		s.Enter = append(s.Enter, model.SendAs{Send: model.Send{Named: timer, Delay: m.Delay}, As: m.Event})
		s.Leave = append(s.Leave, model.Cancel{Named: timer})
		s.Moves[i].Timed, s.Moves[i].Delay = false, 0
	}
}
