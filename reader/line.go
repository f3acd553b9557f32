package reader

import (
	"strings"

	"charts/api"
	"charts/model"
)

// line is a line of a chart by itself: where it may stand and which names it may have is asked when all lines are known.
type line interface {
	place(d *draft)
	checkNames(d *draft)
}

type stateLine struct {
	spot
	kind model.Kind
	name string
}

type moveLine struct {
	spot
	move model.Move
}

// doings are what enter and leave lines have in common.
type doings struct {
	spot
	actions []model.Action
}

type enterLine struct {
	doings
}

type leaveLine struct {
	doings
}

func readLine(number int, text string) line {
	body := strings.TrimLeft(text, " ")
	w := &words{
		spot: spot{number: number, depth: len(text) - len(body)},
		left: strings.Split(body, " "),
	}
	l := w.line()
	w.end()
	return l
}

func (w *words) line() line {
	switch w.next() {
	case "state":
		return w.state(model.Plain)
	case "parallel":
		return w.state(model.Parallel)
	case "final":
		return w.state(model.Final)
	case "history":
		return w.history()
	case "on":
		return w.move(model.Move{Event: w.nextOf(isAwaited)})
	case "after":
		return w.move(model.Move{Event: timedEvent(w.number), Timed: true, Delay: w.delay()})
	case "enter":
		return enterLine{w.doings()}
	case "leave":
		return leaveLine{w.doings()}
	}
	w.refuse(api.ErrSyntax)
	return nil
}

func (w *words) state(kind model.Kind) stateLine {
	return stateLine{spot: w.spot, kind: kind, name: w.nextOf(isName)}
}

func (w *words) history() stateLine {
	l := w.state(model.History)
	if w.skip("deep") {
		l.kind = model.DeepHistory
	}
	return l
}

// move reads what stands behind the event or the delay.
func (w *words) move(m model.Move) moveLine {
	if w.skip("to") {
		m.To = w.nextOf(isName)
	}
	m.Actions = w.actions()
	return moveLine{spot: w.spot, move: m}
}

func (w *words) doings() doings {
	list := w.actions()
	if len(list) == 0 {
		w.refuse(api.ErrSyntax)
	}
	return doings{spot: w.spot, actions: list}
}

func (w *words) actions() []model.Action {
	var list []model.Action
	for w.skip("do") {
		list = append(list, w.action())
	}
	return list
}

func (w *words) action() model.Action {
	switch w.next() {
	case "raise":
		return model.Raise{Named: w.named()}
	case "send":
		return w.send()
	case "cancel":
		return model.Cancel{Named: w.named()}
	}
	w.refuse(api.ErrSyntax)
	return nil
}

func (w *words) named() model.Named { return model.Named{Name: w.nextOf(isOwnEvent)} }

func (w *words) send() model.Action {
	s := model.Send{Named: w.named(), Delay: w.delay()}
	if !w.skip("as") {
		return s
	}
	return model.SendAs{Send: s, As: w.nextOf(isOwnEvent)}
}
