// Package reader: charts from their texts, or the first fault of a text.
package reader

import (
	"strings"

	"charts/api"
	"charts/model"
)

// refusal is what reading panics with at a fault: a type of its own, so that no other panic is taken for one.
type refusal struct {
	*api.Fault
}

// spot is where a line stands.
type spot struct {
	number int
	depth  int
}

// refuse ends the reading with a fault in this line.
func (s spot) refuse(e api.Errno) {
	panic(refusal{&api.Fault{Err: e, Line: s.number}})
}

// Read reads a chart. Its error is an *api.Fault.
func Read(text string) (c *model.Chart, err error) {
	defer func() {
		switch r := recover().(type) {
		case nil:
		case refusal:
			c, err = nil, r.Fault
		default:
			panic(r)
		}
	}()
	// Each step goes through the whole text, since any fault of one comes ahead of all faults of the next.
	lines := readLines(text)
	d := placeLines(lines)
	for _, l := range lines {
		l.checkNames(d)
	}
	return &model.Chart{States: d.states}, nil
}

func readLines(text string) []line {
	if len(text) > api.MaxText {
		spot{}.refuse(api.ErrLong)
	}
	// Cloned, since the names in a chart are pieces of the text, and a chart may be kept.
	pieces := strings.Split(strings.Clone(text), "\n")
	ended := len(pieces) - 1
	lines := make([]line, ended)
	for i, s := range pieces[:ended] {
		lines[i] = readLine(i+1, s)
	}
	if ended == 0 || pieces[ended] != "" {
		spot{number: ended + 1}.refuse(api.ErrSyntax)
	}
	return lines
}
