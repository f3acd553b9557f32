package plan

import (
	"slices"

	"charts/model"
	"charts/states"
)

// Move is a move. One that leads nowhere leaves and enters nothing.
type Move struct {
	Own     int
	Leaves  states.Set // all that are in its domain: it leaves the active ones of them
	Actions []model.Action
	Enters  func(kept *Kept) states.Set
}

func (p *Plan) addMoves(c *model.Chart) {
	index := map[string]int{}
	for i, s := range c.States {
		index[s.Name] = i
	}
	for i, s := range c.States {
		for _, m := range s.Moves {
			row := p.row(m.Event)
			if row[i] != nil {
				continue // Of several moves of a state at one event only the first is ever asked for.
			}
			row[i] = &Move{Own: i, Actions: m.Actions, Enters: enterNothing}
			if m.To != "" {
				p.lead(row[i], index[m.To])
			}
		}
	}
	for _, row := range p.answers {
		p.handOutwards(row)
	}
}

func (p *Plan) row(event string) []*Move {
	row, ok := p.answers[event]
	if !ok {
		row = make([]*Move, len(p.States))
		p.answers[event] = row
	}
	return row
}

// handOutwards lets each state without a move of its own answer with that of the state it belongs to.
func (p *Plan) handOutwards(row []*Move) {
	for i, s := range p.States {
		if row[i] == nil && s.Owner != model.None {
			row[i] = row[s.Owner]
		}
	}
}

func enterNothing(*Kept) states.Set { return 0 }

// lead lets the move lead to a state.
func (p *Plan) lead(m *Move, to int) {
	m.Leaves = p.domain(m.Own, to)
	t := &p.States[to]
	path := t.Around & m.Leaves
	if t.Kind.IsHistory() {
		m.Enters = func(kept *Kept) states.Set { return p.complete(path | p.recall(t.Owner, kept[to])) }
		return
	}
	all := p.complete(path | t.With)
	m.Enters = func(*Kept) states.Set { return all }
}

// domain gives all that are in the innermost plain state that both of these are in.
func (p *Plan) domain(a, b int) states.Set {
	for i := range (p.States[a].Around & p.States[b].Around).Backward() {
		if p.States[i].Kind == model.Plain {
			return p.States[i].Inside
		}
	}
	return states.One(len(p.States)) - 1
}

// complete adds the parts of parallel states at and in which nothing is entered yet. (Whatever is entered in a part, the part is entered, too.)
func (p *Plan) complete(entered states.Set) states.Set {
	for i := range entered.Forward() {
		if p.States[i].Kind != model.Parallel {
			continue
		}
		for part := range p.States[i].Parts.Forward() {
			if !entered.Has(part) {
				entered |= p.States[part].With
			}
		}
	}
	return entered
}

// Wanted gives the moves with which these states answer an event, each once.
func (p *Plan) Wanted(event string, innermost states.Set) []*Move {
	row, ok := p.answers[event]
	if !ok {
		return nil
	}
	var list []*Move
	for i := range innermost.Forward() {
		if m := row[i]; m != nil && !slices.Contains(list, m) {
			list = append(list, m)
		}
	}
	return list
}
