package charts_test

import (
	"errors"
	"math/rand"
	"strings"
	"testing"

	"charts/api"
	"charts/charts"
	"charts/plain"
)

// checkSession asks for what holds of the session of every text, whatever is handed in.
func checkSession(t *testing.T, s, do string) {
	t.Helper()
	x, steps, err := charts.Start(s)
	var f *api.Fault
	if errors.As(err, &f) {
		if x != nil || len(steps) > 0 || isChart(s) {
			t.Fatalf("P7: Start(%q) = %v, %v, %v", s, x, steps, err)
		}
		return
	}
	if x == nil || len(steps) != 1 || !isChart(s) {
		t.Fatalf("P7: Start(%q) = %v, %v, %v", s, x, steps, err)
	}
	ended := errors.Is(err, api.ErrFuel)
	for _, word := range strings.Split(do, " ") {
		before := x.Now()
		steps, err = hand(x, word)
		raw, isReading := reading(word)
		switch {
		case ended && (len(steps) > 0 || err == nil || x.Now() != before), errors.Is(err, api.ErrDone) && len(steps) > 0:
			t.Fatalf("P9, P11: %q: ended, %q: %v, %v", s, word, steps, err)
		case isReading:
			checkReading(t, x, before, raw, steps, err)
		case x.Now() != before, err == nil && len(steps) != 1, !ended && errors.Is(err, api.ErrFuel) && len(steps) != 1:
			t.Fatalf("P9: %q: Event(%q) = %v, %v", s, word, steps, err)
		}
		checkPending(t, x)
		ended = err != nil
	}
}

// checkReading asks for what holds of every reading.
func checkReading(t *testing.T, x *charts.Session, before, raw uint64, steps []api.Step, err error) {
	t.Helper()
	last := before
	for _, s := range steps {
		if s.Time < last || s.Time > max(before, raw) {
			t.Fatalf("P11: Clock(%d) at %d tells of a turn at %d behind %d", raw, before, s.Time, last)
		}
		last = s.Time
	}
	if len(steps) > api.MaxFires || x.Now() != last && x.Now() != max(before, raw) {
		t.Fatalf("P11: Clock(%d) at %d: %d steps, %v, then it is %d", raw, before, len(steps), err, x.Now())
	}
}

// checkPending asks for what holds of the timers of every session.
func checkPending(t *testing.T, x *charts.Session) {
	t.Helper()
	last := x.Now()
	list := x.Pending()
	for _, w := range list {
		if w.At < last || w.Event == "" {
			t.Fatalf("P11: waiting at %d: %v", x.Now(), list)
		}
		last = w.At
	}
	if len(list) > api.MaxTimers {
		t.Fatalf("P10: waiting: %v", list)
	}
}

// TestSpoiltSessions: no text, no event and no reading makes a call panic, or answer what it may not.
func TestSpoiltSessions(t *testing.T) {
	whole := text(rich)
	const do = "x @1 y z @0 e @9 done.p done.b @10 after.4 full  q @18446744073709551615 x @0"
	checkSession(t, whole, do)
	for i := range len(whole) {
		checkSession(t, whole[:i], do)
		checkSession(t, whole[:i]+whole[i+1:], do)
		for _, b := range []byte{' ', '\n', '0', 'a', 'z', 0xff} {
			checkSession(t, whole[:i]+string([]byte{b})+whole[i+1:], do)
		}
	}
}

// TestGreatest: as many states, and as deep, as there may be.
func TestGreatest(t *testing.T) {
	r := rand.New(rand.NewSource(3))
	for range 300 {
		var b strings.Builder
		for i := range api.MaxStates {
			depth := strings.Repeat(" ", min(i%7, api.MaxDepth))
			kind := []string{"state", "parallel"}[r.Intn(2)]
			if i%7 >= api.MaxDepth || i == api.MaxStates-1 {
				kind = "state"
			}
			name := string(rune('a' + i))
			b.WriteString(depth + kind + " " + name + "\n" + depth + " on x to " + string(rune('a'+r.Intn(api.MaxStates))) + " do raise y\n")
		}
		s := b.String()
		if !isChart(s) {
			t.Fatalf("no chart: %q", s)
		}
		checkSession(t, s, "x x x y x")
	}
}

// TestNoSession: a session that was not started has nothing to answer.
func TestNoSession(t *testing.T) {
	for _, x := range []*charts.Session{nil, {}} {
		if steps, err := x.Event("x"); len(steps) > 0 || !errors.Is(err, api.ErrDone) {
			t.Errorf("P1: Event = %v, %v", steps, err)
		}
		if steps, e := plain.Event(x, "x"); len(steps) > 0 || e != api.ErrDone {
			t.Errorf("P1: plain.Event = %v, %v", steps, e)
		}
		if steps, err := x.Clock(1); len(steps) > 0 || !errors.Is(err, api.ErrDone) {
			t.Errorf("P1: Clock = %v, %v", steps, err)
		}
		if steps, e := plain.Clock(x, 1); len(steps) > 0 || e != api.ErrDone {
			t.Errorf("P1: plain.Clock = %v, %v", steps, e)
		}
		if now, list := x.Now(), x.Pending(); now != 0 || len(list) > 0 {
			t.Errorf("P1: at %d: %v", now, list)
		}
	}
}

// scribble writes over all that a caller can reach of what was told, spare room too.
func scribble(steps []api.Step) {
	steps = steps[:cap(steps)]
	for i := range steps {
		list := steps[i].States[:cap(steps[i].States)]
		for k := range list {
			list[k] = "written"
		}
		steps[i] = api.Step{Event: "written", Time: 7, States: list}
	}
}

// scribbleWaits does the same to a list of timers.
func scribbleWaits(list []api.Wait) {
	list = list[:cap(list)]
	for i := range list {
		list[i] = api.Wait{Event: "written", At: 7}
	}
}

const walk = "parallel p/.enter do raise s do send v 3 do send v 70/.state a/..state b/...on x to c/...after 2 to c/..state c/...on x to b/.state d/..state e/...on y to f/..final f/..history h deep/.on z to h/.on w to o/.on v do send u 0 do send u 1/.history g/state o/.on w to g/"

// TestListsAreNew: writing over what was told changes nothing of what is told later, here or in another session.
func TestListsAreNew(t *testing.T) {
	s, do := text(walk), strings.Fields("x y @1 w x w @3 z x y @9 w @80 w x @99")
	x, steps, _ := charts.Start(s)
	y, same, _ := charts.Start(s)
	for _, word := range do {
		if told(steps) != told(same) || waits(x.Pending()) != waits(y.Pending()) {
			t.Errorf("P1: %q, want %q", told(steps), told(same))
		}
		before, list := steps, x.Pending()
		steps, _ = hand(x, word)
		same, _ = hand(y, word)
		now, waiting := told(steps), waits(x.Pending())
		scribble(before)
		scribbleWaits(list)
		if told(steps) != now || waits(x.Pending()) != waiting {
			t.Errorf("P1: %q, %q was written over: %q, %q", now, waiting, told(steps), waits(x.Pending()))
		}
	}
}

// TestListsOfOneAnswer: no two lists of states share memory, spare room too.
func TestListsOfOneAnswer(t *testing.T) {
	x, _, _ := charts.Start(text(walk))
	steps, _ := x.Clock(99)
	if len(steps) < 5 {
		t.Fatalf("%d steps", len(steps))
	}
	for i := range steps {
		others := told(steps[:i]) + told(steps[i+1:])
		list := steps[i].States[:cap(steps[i].States)]
		for k := range list {
			list[k] = "written"
		}
		if got := told(steps[:i]) + told(steps[i+1:]); got != others {
			t.Errorf("P1: %q was written over: %q", others, got)
		}
	}
}

// TestSessionsApart: sessions that run by turns answer as if they were alone.
func TestSessionsApart(t *testing.T) {
	s := text(walk)
	plays := []string{"x y @2 w x @9 w z x y", "w w y @99 x x z @80 w w", "@3 y y y z @4 w w x w", "q q q q q q q q @70 @71"}
	sessions := make([]*charts.Session, len(plays))
	got := make([][]string, len(plays))
	for i := range plays {
		x, steps, err := charts.Start(s)
		sessions[i], got[i] = x, []string{beside(t, steps, err)}
	}
	for k := range 10 {
		for i, x := range sessions {
			word := strings.Fields(plays[i])[k]
			steps, err := hand(x, word)
			got[i] = add(got[i], word, beside(t, steps, err))
		}
	}
	for i := range plays {
		alone, want := session(t, s, plays[i])
		if all := strings.Join(got[i], "; "); all != want {
			t.Errorf("P1: %s:\n got %s\nwant %s", plays[i], all, want)
		}
		if waits(alone.Pending()) != waits(sessions[i].Pending()) || alone.Now() != sessions[i].Now() {
			t.Errorf("P1: %s: at %d: %v, want at %d: %v", plays[i], sessions[i].Now(), sessions[i].Pending(), alone.Now(), alone.Pending())
		}
	}
}

// TestLoweredRunsAlike: what Lower writes, where it is no longer than a chart may be, runs as the chart does.
func TestLoweredRunsAlike(t *testing.T) {
	const timed = "state a/.after 3 to b do raise x/.on x to b/.on n to p/.state c/..after 0/..leave do send y 4 as i/state b/.enter do send y 1/.after 9 to a/.on x to a/.on full to p/parallel p/.state d/..after 1/..after 2 to e/..on x to a/.state e/.leave do cancel i/"
	low, err := charts.Lower(text(timed))
	if err != nil {
		t.Fatal(err)
	}
	for _, do := range []string{"x x x x x x x x x x x x x x x x", "after.2 after.10 n after.15 x", "n x n x n x x x n x n x x x x x", "after.6 full q after.15 after.16", "@99", "@1 x @2 x @3 x @9", "@3 n @4 n @20 n x @40", "n @1 x n @2 x n x @99 n @101"} {
		x, a := session(t, text(timed), do)
		y, b := session(t, low, do)
		if a != b || x.Now() != y.Now() || waits(x.Pending()) != waits(y.Pending()) {
			t.Errorf("P8: %s:\n  chart %s, at %d: %s\nlowered %s, at %d: %s", do, a, x.Now(), waits(x.Pending()), b, y.Now(), waits(y.Pending()))
		}
	}
}

func FuzzSession(f *testing.F) {
	f.Add(text(rich), "x y z e @2 done.p after.4 @9")
	f.Add(text(walk), "x y w @3 x w z @70 x y @99")
	f.Add(text(bare), "q @18446744073709551615")
	f.Add(text(door), "open @4 @3 @5 open @100")
	f.Add(text(ticking), "@7 @4096 y @100000")
	f.Fuzz(func(t *testing.T, s, do string) { checkSession(t, s, do) })
}
