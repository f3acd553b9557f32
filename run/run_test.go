package run

import (
	"slices"
	"strconv"
	"strings"
	"testing"

	"charts/api"
	"charts/lower"
	"charts/plan"
	"charts/reader"
)

func start(t *testing.T, text string) *Machine {
	t.Helper()
	c, err := reader.Read(text)
	if err != nil {
		t.Fatal(err)
	}
	m, steps, err := Start(plan.New(lower.Delays(c)))
	if err != nil || len(steps) != 1 {
		t.Fatalf("Start = %v, %v", steps, err)
	}
	return m
}

const loud = `parallel p
 enter do raise ep
 leave do raise lp
 state a
  leave do raise la
  enter do raise ea
  state b
   enter do raise eb
   leave do raise lb
   on x to c do raise xb do raise xb2
  final c
   enter do raise ec
 state d
  on x do raise xd
  state e
   enter do raise ee
   leave do raise le
   on y to f do raise ye
  final f
   enter do raise ef
 on z to p do raise zp
 on w to g do raise wp
final g
 enter do raise eg
`

// TestOrder: what is left, the last of the text first; then the moves; then what is entered, in the order of the text.
func TestOrder(t *testing.T) {
	for _, c := range []struct {
		events, raised string
	}{
		{"x", "lb xb xb2 xd ec done.a"},
		{"y", "le ye ef done.d"},
		{"y x", "lb xb xb2 xd ec done.a done.p"},
		{"x y", "le ye ef done.d done.p"},
		{"z", "le lb la lp zp ep ea eb ee"},
		{"w", "le lb la lp wp eg"},
		{"q", ""},
	} {
		m := start(t, loud)
		for _, e := range strings.Fields(c.events) {
			m.raised = nil
			m.answer(e)
		}
		if got := strings.Join(m.raised, " "); got != c.raised {
			t.Errorf("P8: %s: raised %q, want %q", c.events, got, c.raised)
		}
	}
}

// TestNothingRaisedIsLeft: also behind an end that leaves some of it unanswered.
func TestNothingRaisedIsLeft(t *testing.T) {
	m := start(t, loud)
	m.Event("w")
	if len(m.raised) > 0 || m.end != api.ErrDone {
		t.Errorf("P7: left: %v, end: %v", m.raised, m.end)
	}
}

const sending = `state a
 enter do send e 3 do send f 18446744073709551615 as i
 leave do send l 0 as after
 after 7
 on x to b do send m 2 as i
 after 5 to b
state b
 enter do cancel after
`

// running writes the timers that run, in the order in which they fire, with their names.
func running(m *Machine) string {
	var out []string
	for at, t := range m.timers.All() {
		out = append(out, strings.TrimSpace(strconv.FormatUint(at, 10)+" "+t.event+" "+t.name))
	}
	return strings.Join(out, "; ")
}

// TestSend: when timers are to fire, by which names.
func TestSend(t *testing.T) {
	const greatest = "18446744073709551615"
	for _, c := range []struct {
		now           uint64
		started, left string
	}{
		{0, "3 e; 5 after.6 after.6; 7 after.4 after.4; " + greatest + " f i", "2 m i; 3 e; " + greatest + " f i"},
		{1, "3 e; 5 after.6 after.6; 7 after.4 after.4; " + greatest + " f i", "3 e; 3 m i; " + greatest + " f i"},
		{4, "5 after.6 after.6; 7 after.4 after.4; " + greatest + " f i", "6 m i; " + greatest + " f i"},
	} {
		m := start(t, sending)
		m.Clock(c.now)
		if got := running(m); got != c.started {
			t.Errorf("P10: at %d: timers %q, want %q", c.now, got, c.started)
		}
		m.Event("x")
		if got := running(m); got != c.left {
			t.Errorf("P10: at %d: timers %q, want %q", c.now, got, c.left)
		}
	}
}

// TestTakenOut: a timer that fires runs no more in its turn, and takes no room there.
func TestTakenOut(t *testing.T) {
	m := start(t, "state a\n enter"+strings.Repeat(" do send y 1 as i", api.MaxTimers)+"\n on y do send z 7 as j\n on full to b\nstate b\n")
	steps, err := m.Clock(1)
	if len(steps) != api.MaxTimers || err != nil {
		t.Fatalf("P11: Clock = %v, %v", steps, err)
	}
	if got := running(m); got != strings.Repeat("8 z j; ", api.MaxTimers-1)+"8 z j" || !slices.Equal(steps[11].States, []string{"a"}) {
		t.Errorf("P11: timers %q, steps %v", got, steps)
	}
}

// TestStepTellsTheTime: a step has the time at hand.
func TestStepTellsTheTime(t *testing.T) {
	m := start(t, "state a\n")
	m.Clock(42)
	steps, err := m.Event("x")
	if err != nil || len(steps) != 1 || steps[0].Time != 42 || !slices.Equal(steps[0].States, []string{"a"}) {
		t.Errorf("P7: %v, %v", steps, err)
	}
}
