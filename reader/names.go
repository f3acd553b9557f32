package reader

import (
	"strings"

	"charts/api"
	"charts/model"
)

func (l stateLine) checkNames(d *draft) {
	if d.first[l.name] != l.number {
		l.refuse(api.ErrName)
	}
}

func (l moveLine) checkNames(d *draft) {
	if _, ok := d.first[l.move.To]; !ok && l.move.To != "" {
		l.refuse(api.ErrName)
	}
	// The event of a timed move is its own line's, not one that its text has.
	if !l.move.Timed {
		d.checkReserved(l.spot, l.move.Event)
	}
	d.checkActions(l.spot, l.move.Actions)
}

func (l doings) checkNames(d *draft) { d.checkActions(l.spot, l.actions) }

func (d *draft) checkActions(at spot, list []model.Action) {
	for _, a := range list {
		d.checkReserved(at, a.Names()...)
	}
}

// checkReserved keeps the events of timed moves apart from what the text itself names.
func (d *draft) checkReserved(at spot, names ...string) {
	for _, name := range names {
		if d.timed && strings.HasPrefix(name, reservedPrefix) {
			at.refuse(api.ErrName)
		}
	}
}
