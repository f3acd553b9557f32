package reader

import (
	"charts/api"
	"charts/model"
)

// draft is a chart whose lines are being laid to their states.
type draft struct {
	states []model.State
	spots  []spot         // of each state
	open   []int          // at each depth, the state to which a line one deeper belongs
	first  map[string]int // of each name, the line of the first state that has it
	timed  bool           // whether there is a move behind a delay
}

func placeLines(lines []line) *draft {
	d := &draft{first: map[string]int{}}
	for _, l := range lines {
		l.place(d)
	}
	d.checkParallels()
	return d
}

// owner is the index of the state that a line there belongs to.
func (d *draft) owner(at spot) int {
	if at.depth == 0 || at.depth > len(d.open) {
		at.refuse(api.ErrTree)
	}
	return d.open[at.depth-1]
}

// ownerBut is the state that a line there belongs to; the line is refused if that is of one of these kinds.
func (d *draft) ownerBut(at spot, kinds ...model.Kind) *model.State {
	s := &d.states[d.owner(at)]
	for _, k := range kinds {
		if s.Kind == k {
			at.refuse(api.ErrTree)
		}
	}
	return s
}

func (l stateLine) place(d *draft) {
	owner := model.None
	if l.depth > 0 {
		owner = d.owner(l.spot)
	}
	if len(d.states) == api.MaxStates || l.depth > api.MaxDepth || !d.mayHold(owner, l.kind) {
		l.refuse(api.ErrTree)
	}
	d.add(l, owner)
}

func (d *draft) mayHold(owner int, kind model.Kind) bool {
	if owner == model.None {
		return !kind.IsHistory()
	}
	switch s := d.states[owner]; s.Kind {
	case model.Plain:
		return len(s.Parts) > 0 || !kind.IsHistory()
	case model.Parallel:
		return kind != model.Final
	}
	return false
}

func (d *draft) add(l stateLine, owner int) {
	index := len(d.states)
	if owner != model.None {
		d.states[owner].Parts = append(d.states[owner].Parts, index)
	}
	d.states = append(d.states, model.State{Kind: l.kind, Name: l.name, Depth: l.depth, Owner: owner})
	d.spots = append(d.spots, l.spot)
	d.open = append(d.open[:l.depth], index)
	if _, ok := d.first[l.name]; !ok {
		d.first[l.name] = l.number
	}
}

func (l moveLine) place(d *draft) {
	s := d.ownerBut(l.spot, model.Final, model.History, model.DeepHistory)
	s.Moves = append(s.Moves, l.move)
	d.timed = d.timed || l.move.Timed
}

func (l enterLine) place(d *draft) {
	l.putInto(&d.ownerBut(l.spot, model.History, model.DeepHistory).Enter)
}

func (l leaveLine) place(d *draft) {
	l.putInto(&d.ownerBut(l.spot, model.History, model.DeepHistory).Leave)
}

// putInto refuses a second line of its kind: the first one has left at least one action.
func (l doings) putInto(list *[]model.Action) {
	if len(*list) > 0 {
		l.refuse(api.ErrTree)
	}
	*list = l.actions
}

// checkParallels refuses a parallel state in which nothing could be active.
func (d *draft) checkParallels() {
	for i, s := range d.states {
		if s.Kind == model.Parallel && !d.hasActiveParts(s) {
			d.spots[i].refuse(api.ErrTree)
		}
	}
}

func (d *draft) hasActiveParts(s model.State) bool {
	for _, i := range s.Parts {
		if !d.states[i].Kind.IsHistory() {
			return true
		}
	}
	return false
}
