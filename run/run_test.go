package run

import (
	"math"
	"reflect"
	"slices"
	"strings"
	"testing"

	"charts/api"
	"charts/lower"
	"charts/plan"
	"charts/reader"
	"charts/timers"
)

func start(t *testing.T, text string) *Machine {
	t.Helper()
	c, err := reader.Read(text)
	if err != nil {
		t.Fatal(err)
	}
	m, steps, err := Start(plan.New(lower.Delays(c)))
	if err != nil || len(steps) != 1 {
		t.Fatalf("Start = %v, %v", steps, err)
	}
	return m
}

const loud = `parallel p
 enter do raise ep
 leave do raise lp
 state a
  leave do raise la
  enter do raise ea
  state b
   enter do raise eb
   leave do raise lb
   on x to c do raise xb do raise xb2
  final c
   enter do raise ec
 state d
  on x do raise xd
  state e
   enter do raise ee
   leave do raise le
   on y to f do raise ye
  final f
   enter do raise ef
 on z to p do raise zp
 on w to g do raise wp
final g
 enter do raise eg
`

// TestOrder: what is left, the last of the text first; then the moves; then what is entered, in the order of the text.
func TestOrder(t *testing.T) {
	for _, c := range []struct {
		events, raised string
	}{
		{"x", "lb xb xb2 xd ec done.a"},
		{"y", "le ye ef done.d"},
		{"y x", "lb xb xb2 xd ec done.a done.p"},
		{"x y", "le ye ef done.d done.p"},
		{"z", "le lb la lp zp ep ea eb ee"},
		{"w", "le lb la lp wp eg"},
		{"q", ""},
	} {
		m := start(t, loud)
		for _, e := range strings.Fields(c.events) {
			m.raised = nil
			m.answer(e)
		}
		if got := strings.Join(m.raised, " "); got != c.raised {
			t.Errorf("P8: %s: raised %q, want %q", c.events, got, c.raised)
		}
	}
}

// TestNothingRaisedIsLeft: also behind an end that leaves some of it unanswered.
func TestNothingRaisedIsLeft(t *testing.T) {
	m := start(t, loud)
	m.Event("w")
	if len(m.raised) > 0 || m.end != api.ErrDone {
		t.Errorf("P7: left: %v, end: %v", m.raised, m.end)
	}
}

const sending = `state a
 enter do send e 3 do send f 18446744073709551615 as i
 leave do send l 0 as after
 after 7
 on x to b do send m 2 as i
 after 5 to b
state b
 enter do cancel after
`

// TestSend: when timers are to fire, by which names.
func TestSend(t *testing.T) {
	const greatest = math.MaxUint64
	for _, c := range []struct {
		now  uint64
		want []timers.Timer
	}{
		{0, []timers.Timer{{Event: "e", At: 3}, {Event: "f", Name: "i", At: greatest}, {Event: "m", Name: "i", At: 2}}},
		{1, []timers.Timer{{Event: "e", At: 3}, {Event: "f", Name: "i", At: greatest}, {Event: "m", Name: "i", At: 3}}},
		{greatest - 2, []timers.Timer{{Event: "e", At: 3}, {Event: "f", Name: "i", At: greatest}, {Event: "m", Name: "i", At: greatest}}},
		{greatest - 1, []timers.Timer{{Event: "e", At: 3}, {Event: "f", Name: "i", At: greatest}, {Event: "m", Name: "i", At: greatest}}},
		{greatest, []timers.Timer{{Event: "e", At: 3}, {Event: "f", Name: "i", At: greatest}, {Event: "m", Name: "i", At: greatest}}},
	} {
		m := start(t, sending)
		started := fill(t, []timers.Timer{{Event: "e", At: 3}, {Event: "f", Name: "i", At: greatest}, {Event: "after.4", Name: "after.4", At: 7}, {Event: "after.6", Name: "after.6", At: 5}})
		if !reflect.DeepEqual(m.timers, started) {
			t.Fatalf("P10: started: %v", m.timers)
		}
		m.now = c.now
		m.Event("x")
		if !reflect.DeepEqual(m.timers, fill(t, c.want)) {
			t.Errorf("P10: at %d: timers %v, want %v", c.now, m.timers, c.want)
		}
	}
}

func fill(t *testing.T, list []timers.Timer) timers.Timers {
	t.Helper()
	var all timers.Timers
	for _, one := range list {
		if !all.Start(one) {
			t.Fatalf("P10: %v does not start", one)
		}
	}
	return all
}

func TestLater(t *testing.T) {
	const greatest = math.MaxUint64
	for _, c := range [][3]uint64{{0, 0, 0}, {3, 4, 7}, {0, greatest, greatest}, {1, greatest - 1, greatest}, {1, greatest, greatest}, {greatest, 0, greatest}, {greatest, 1, greatest}, {greatest, greatest, greatest}, {1 << 63, 1 << 63, greatest}, {1<<63 - 1, 1 << 63, greatest}, {1<<63 - 1, 1<<63 - 1, greatest - 1}} {
		if got := later(c[0], c[1]); got != c[2] {
			t.Errorf("P10: %d behind %d: %d, want %d", c[1], c[0], got, c[2])
		}
	}
}

// TestStepTellsTheTime: a step has the time at hand.
func TestStepTellsTheTime(t *testing.T) {
	m := start(t, "state a\n")
	m.now = 42
	steps, err := m.Event("x")
	if err != nil || len(steps) != 1 || steps[0].Time != 42 || !slices.Equal(steps[0].States, []string{"a"}) {
		t.Errorf("P7: %v, %v", steps, err)
	}
}
