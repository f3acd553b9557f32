package charts_test

import (
	"errors"
	"math/rand"
	"strings"
	"testing"

	"charts/api"
	"charts/charts"
	"charts/plain"
)

// checkSession asks for what holds of the session of every text, whatever is handed in.
func checkSession(t *testing.T, s, events string) {
	t.Helper()
	x, steps, err := charts.Start(s)
	var f *api.Fault
	if errors.As(err, &f) {
		if x != nil || len(steps) > 0 || isChart(s) {
			t.Fatalf("P7: Start(%q) = %v, %v, %v", s, x, steps, err)
		}
		return
	}
	if x == nil || len(steps) != 1 || !isChart(s) {
		t.Fatalf("P7: Start(%q) = %v, %v, %v", s, x, steps, err)
	}
	ended := errors.Is(err, api.ErrFuel)
	for _, e := range strings.Split(events, " ") {
		steps, err = x.Event(e)
		switch {
		case ended && (len(steps) > 0 || err == nil), err == nil && len(steps) != 1, errors.Is(err, api.ErrDone) && len(steps) > 0, !ended && errors.Is(err, api.ErrFuel) && len(steps) != 1:
			t.Fatalf("P9: %q: Event(%q) = %v, %v", s, e, steps, err)
		}
		ended = err != nil
	}
}

// TestSpoiltSessions: no text and no event makes a call panic, or answer what it may not.
func TestSpoiltSessions(t *testing.T) {
	whole := text(rich)
	const events = "x y z e done.p done.b after.4 full  q"
	checkSession(t, whole, events)
	for i := range len(whole) {
		checkSession(t, whole[:i], events)
		checkSession(t, whole[:i]+whole[i+1:], events)
		for _, b := range []byte{' ', '\n', '0', 'a', 'z', 0xff} {
			checkSession(t, whole[:i]+string([]byte{b})+whole[i+1:], events)
		}
	}
}

// TestGreatest: as many states, and as deep, as there may be.
func TestGreatest(t *testing.T) {
	r := rand.New(rand.NewSource(3))
	for range 300 {
		var b strings.Builder
		for i := range api.MaxStates {
			depth := strings.Repeat(" ", min(i%7, api.MaxDepth))
			kind := []string{"state", "parallel"}[r.Intn(2)]
			if i%7 >= api.MaxDepth || i == api.MaxStates-1 {
				kind = "state"
			}
			name := string(rune('a' + i))
			b.WriteString(depth + kind + " " + name + "\n" + depth + " on x to " + string(rune('a'+r.Intn(api.MaxStates))) + " do raise y\n")
		}
		s := b.String()
		if !isChart(s) {
			t.Fatalf("no chart: %q", s)
		}
		checkSession(t, s, "x x x y x")
	}
}

// TestNoSession: a session that was not started has nothing to answer.
func TestNoSession(t *testing.T) {
	for _, x := range []*charts.Session{nil, {}} {
		if steps, err := x.Event("x"); len(steps) > 0 || !errors.Is(err, api.ErrDone) {
			t.Errorf("P1: Event = %v, %v", steps, err)
		}
		if steps, e := plain.Event(x, "x"); len(steps) > 0 || e != api.ErrDone {
			t.Errorf("P1: plain.Event = %v, %v", steps, e)
		}
		x.Clock(1)
		x.Now()
		x.Pending()
	}
}

// scribble writes over all that a caller can reach of what was told, spare room too.
func scribble(steps []api.Step) {
	steps = steps[:cap(steps)]
	for i := range steps {
		list := steps[i].States[:cap(steps[i].States)]
		for k := range list {
			list[k] = "written"
		}
		steps[i] = api.Step{Event: "written", Time: 7, States: list}
	}
}

const walk = "parallel p/.enter do raise s/.state a/..state b/...on x to c/..state c/...on x to b/.state d/..state e/...on y to f/..final f/..history h deep/.on z to h/.on w to o/.history g/state o/.on w to g/"

// TestListsAreNew: writing over what was told changes nothing of what is told later, here or in another session.
func TestListsAreNew(t *testing.T) {
	s, events := text(walk), strings.Fields("x y w x w z x y w w x")
	want := strings.Split(play(t, s, strings.Join(events, " ")), "; ")
	x, steps, _ := charts.Start(s)
	for i, e := range events {
		if got := told(steps); got != want[i] {
			t.Errorf("P1: %q, want %q", got, want[i])
		}
		before := steps
		steps, _ = x.Event(e)
		now := told(steps)
		scribble(before)
		if told(steps) != now {
			t.Errorf("P1: %q was written over: %q", now, told(steps))
		}
	}
}

// TestSessionsApart: sessions that run by turns answer as if they were alone.
func TestSessionsApart(t *testing.T) {
	s := text(walk)
	plays := []string{"x y w x w z x y", "w w y x x z w w", "y y y z w w x w", "q q q q q q q q"}
	sessions := make([]*charts.Session, len(plays))
	got := make([]string, len(plays))
	for i := range plays {
		x, steps, err := charts.Start(s)
		sessions[i], got[i] = x, beside(t, steps, err)
	}
	for k := range 8 {
		for i, x := range sessions {
			steps, err := x.Event(strings.Fields(plays[i])[k])
			got[i] += "; " + beside(t, steps, err)
		}
	}
	for i := range plays {
		if want := play(t, s, plays[i]); got[i] != want {
			t.Errorf("P1: %s:\n got %s\nwant %s", plays[i], got[i], want)
		}
	}
}

// TestLoweredRunsAlike: what Lower writes, where it is no longer than a chart may be, runs as the chart does.
func TestLoweredRunsAlike(t *testing.T) {
	const timed = "state a/.after 3 to b do raise x/.on x to b/.on n to p/.state c/..after 0/..leave do send y 4 as i/state b/.enter do send y 1/.after 9 to a/.on x to a/.on full to p/parallel p/.state d/..after 1/..after 2 to e/..on x to a/.state e/.leave do cancel i/"
	low, err := charts.Lower(text(timed))
	if err != nil {
		t.Fatal(err)
	}
	for _, events := range []string{"x x x x x x x x x x x x x x x x", "after.2 after.10 n after.15 x", "n x n x n x x x n x n x x x x x", "after.6 full q after.15 after.16"} {
		if a, b := play(t, text(timed), events), play(t, low, events); a != b {
			t.Errorf("P8: %s:\n     chart %s\nlowered %s", events, a, b)
		}
	}
}

func FuzzSession(f *testing.F) {
	f.Add(text(rich), "x y z e done.p after.4")
	f.Add(text(walk), "x y w x w z x y")
	f.Add(text(bare), "q")
	f.Fuzz(func(t *testing.T, s, events string) { checkSession(t, s, events) })
}
