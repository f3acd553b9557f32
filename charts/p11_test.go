package charts_test

import (
	"errors"
	"math"
	"math/rand"
	"strconv"
	"strings"
	"testing"

	"charts/api"
	"charts/charts"
)

const greatest = math.MaxUint64

// TestReadings: the time at hand is the latest reading, and what fires up to it does.
func TestReadings(t *testing.T) {
	const two = "state a/.enter do send x 5 do send y 6/"
	wantRuns(t, []run{
		{two, "@4 @5 @5 @6 @6", "0: a; x 5: a; y 6: a"},
		{two, "@5 @7", "0: a; x 5: a; y 6: a"},
		{two, "@99", "0: a; x 5: a; y 6: a"},
		{two, "@4 e @5 e @6 e", "0: a; e 4: a; x 5: a; e 5: a; y 6: a; e 6: a"},
		// readings that fall behind are taken for the time at hand
		{two, "@4 @0 e @3 @5 @1 e", "0: a; e 4: a; x 5: a; e 5: a"},
		{"state a/.on g do send x 0 do send y 1/", "@9 g @3 @10", "0: a; g 9: a; x 9: a; y 10: a"},
		// what a timer starts fires in the same reading, if it is to
		{"state a/.after 1 to b/state b/.after 2 to a/", "@10", "0: a; after.2 1: b; after.4 3: a; after.2 4: b; after.4 6: a; after.2 7: b; after.4 9: a; after.2 10: b"},
		{"state a/", "@0 @18446744073709551615 @0 e", "0: a; e 18446744073709551615: a"},
	})
	wantRests(t, []rest{
		{two, "", 0, "x 5; y 6"},
		{two, "@4", 4, "x 5; y 6"},
		{two, "@4 @3", 4, "x 5; y 6"},
		{two, "@5", 5, "y 6"},
		{two, "@5 @4", 5, "y 6"},
		{two, "@6", 6, ""},
		{two, "@18446744073709551615", greatest, ""},
		{two, "@18446744073709551615 @7", greatest, ""},
	})
}

// TestOneTime: of several timers at one time, the one that was started first fires first.
func TestOneTime(t *testing.T) {
	wantRuns(t, []run{
		{"state a/.enter do send x 5 do send y 5 do send z 4 do send w 5/", "@5", "0: a; z 4: a; x 5: a; y 5: a; w 5: a"},
		// started at various times, in various wheels
		{"state a/.on g do send x 5000/.on h do send y 904/.on i do send z 60/.on j do send w 1/", "g @4096 h @4940 i @4999 j @5000", "0: a; g 0: a; h 4096: a; i 4940: a; j 4999: a; x 5000: a; y 5000: a; z 5000: a; w 5000: a"},
		{"state a/.on g do send x 70/.on h do send y 60/", "g @10 h @99", "0: a; g 0: a; h 10: a; x 70: a; y 70: a"},
		{"state a/.on g do send x 68719476740/.on h do send y 5/", "g @68719476735 h @68719476740", "0: a; g 0: a; h 68719476735: a; x 68719476740: a; y 68719476740: a"},
		// delay 0: in the same reading, behind what waits for that time already
		{"state a/.enter do send x 0 do send y 0/.on x do send z 0/", "@0", "0: a; x 0: a; y 0: a; z 0: a"},
		{"state a/.enter do send x 5 do send y 5/.on x do send z 0/.on z do send w 0/", "@5", "0: a; x 5: a; y 5: a; z 5: a; w 5: a"},
		{"state a/.on g do send x 0/", "@7 g g @7", "0: a; g 7: a; g 7: a; x 7: a; x 7: a"},
	})
	wantRests(t, []rest{
		{"state a/.enter do send x 70 do send y 3 do send z 70 do send w 0 do send v 100000000000 do send u 4096 do send t 65 do send s 100000000000 do send r 99999999999/", "", 0, "w 0; y 3; t 65; x 70; z 70; u 4096; r 99999999999; v 100000000000; s 100000000000"},
		{"state a/.on g do send x 70/.on h do send y 60/", "g @10 h g h", 10, "x 70; y 70; y 70; x 80"},
	})
}

// TestGreatestTimeIsReached: timers at the greatest time fire at a reading of it, and not ahead of it.
func TestGreatestTimeIsReached(t *testing.T) {
	const late = "state a/.enter do send x 18446744073709551615 do send y 18446744073709551614/.on x do send z 18446744073709551615/"
	wantRuns(t, []run{
		{late, "@18446744073709551613 @18446744073709551614 @18446744073709551615", "0: a; y 18446744073709551614: a; x 18446744073709551615: a; z 18446744073709551615: a"},
		{late, "@18446744073709551615", "0: a; y 18446744073709551614: a; x 18446744073709551615: a; z 18446744073709551615: a"},
	})
	wantRests(t, []rest{
		{late, "@18446744073709551613", greatest - 2, "y 18446744073709551614; x 18446744073709551615"},
		{late, "@18446744073709551614", greatest - 1, "x 18446744073709551615"},
		{late, "@18446744073709551615", greatest, ""},
		// one that starts itself again there does so without an end
		{"state a/.after 18446744073709551615 to a/", "@18446744073709551615", greatest, "after.2 18446744073709551615"},
	})
}

// sizes are delays at and beside the edges of all wheels, and further away.
func sizes() []uint64 {
	list := []uint64{0, 1, 2, 62, 63, 1 << 63, greatest - 1, greatest}
	for bits := 6; bits <= 60; bits += 6 {
		one := uint64(1) << bits
		list = append(list, one-1, one, one+1, 3*one+5, 64*one-one)
	}
	return list
}

// TestDelaysOfEverySize: a timer fires at its time, and not ahead of it, from whatever time on and by whatever readings.
func TestDelaysOfEverySize(t *testing.T) {
	for _, from := range sizes() {
		for _, delay := range sizes() {
			s := "state a\n on g do send x " + strconv.FormatUint(delay, 10) + " do send y " + strconv.FormatUint(delay, 10) + "\n"
			x, _, err := charts.Start(s)
			if err != nil {
				t.Fatal(err)
			}
			x.Clock(from)
			x.Event("g")
			at := uint64(greatest)
			if delay < greatest-from {
				at = from + delay
			}
			word := strconv.FormatUint(at, 10)
			for _, left := range []uint64{1 << 37, 1 << 36, 1 << 30, 4097, 64, 1} {
				if left > at-from {
					continue
				}
				if steps, err := x.Clock(at - left); len(steps) > 0 || err != nil || x.Now() != at-left {
					t.Errorf("P11: delay %d from %d: Clock(%d) = %v, %v, then it is %d", delay, from, at-left, steps, err, x.Now())
				}
				if got := waits(x.Pending()); got != "x "+word+"; y "+word {
					t.Errorf("P11: delay %d from %d: waiting at %d: %s", delay, from, x.Now(), got)
				}
			}
			if steps, err := x.Clock(at); err != nil || told(steps) != "x "+word+": a; y "+word+": a" {
				t.Errorf("P11: delay %d from %d: Clock(%d) = %v, %v", delay, from, at, steps, err)
			}
		}
	}
}

// fires asks for how many timers fire at a reading behind all else that is handed in, and for the error beside.
func fires(t *testing.T, chart, do string, raw uint64, count int, want error) *charts.Session {
	t.Helper()
	x, _ := session(t, text(chart), do)
	steps, err := x.Clock(raw)
	if len(steps) != count || !errors.Is(err, want) {
		t.Errorf("P11: %q, %q: Clock(%d) = %d steps, %v, want %d, %v", chart, do, raw, len(steps), err, count, want)
	}
	return x
}

// TestFires: two hundred turns in one reading; one more ends the session, and that timer still runs.
func TestFires(t *testing.T) {
	const each = "state a/.after 1 to a/"
	fires(t, each, "", 199, 199, nil)
	fires(t, each, "", 200, 200, nil)
	fires(t, each, "", 201, 200, api.ErrFuel)
	fires(t, each, "", greatest, 200, api.ErrFuel)
	fires(t, "state a/.after 0 to a/", "", 0, 200, api.ErrFuel)
	fires(t, "state a/.after 0 to a/", "@0", 0, 0, api.ErrFuel)
	// they are counted anew at each reading
	fires(t, each, "@200", 400, 200, nil)
	fires(t, each, "@200", 401, 200, api.ErrFuel)
	fires(t, each, "@150 @300 @450", 600, 150, nil)
	wantRests(t, []rest{
		{each, "@200", 200, "after.2 201"},
		{each, "@201", 200, "after.2 201"},
		{each, "@201 @300", 200, "after.2 201"},
		{each, "@1000 e", 200, "after.2 201"},
		{"state a/.after 0 to a/", "@7", 0, "after.2 0"},
		{"state a/.enter do send z 900 do send y 201/.after 1 to b/state b/.after 1 to b/", "@999", 200, "y 201; after.5 201; z 900"},
	})
	// what is further on than the reading does not count
	x := fires(t, "state a/.enter do send y 201/.state b/..after 1 to c/.state c/..on y to b/", "", 200, 1, nil)
	if x.Now() != 200 {
		t.Errorf("P11: it is %d", x.Now())
	}
}

// TestLastTurn: the two hundredth turn may still end the session by itself.
func TestLastTurn(t *testing.T) {
	const done = "state a/.enter do send t 1 do send e 200/.on t do send t 1/.on e to f/final f/"
	x := fires(t, done, "", 999, 200, nil)
	if _, err := x.Clock(999); !errors.Is(err, api.ErrDone) || x.Now() != 200 || waits(x.Pending()) != "t 200" {
		t.Errorf("P11: %v at %d: %s", err, x.Now(), waits(x.Pending()))
	}
	const late = "state a/.enter do send t 1 do send e 201/.on t do send t 1/.on e to f/final f/"
	x = fires(t, late, "", 999, 200, api.ErrFuel)
	if x.Now() != 200 || waits(x.Pending()) != "e 201; t 201" {
		t.Errorf("P11: at %d: %s", x.Now(), waits(x.Pending()))
	}
	const loop = "state a/.enter do send t 1 do send e 200/.on t do send t 1/.on e do raise e/"
	x = fires(t, loop, "", 200, 200, api.ErrFuel)
	if x.Now() != 200 || waits(x.Pending()) != "t 200" {
		t.Errorf("P11: at %d: %s", x.Now(), waits(x.Pending()))
	}
}

// TestEndInAReading: no further timer fires, and the time at hand stays that of the last turn.
func TestEndInAReading(t *testing.T) {
	const done = "state a/.enter do send x 3 do send y 3 do send z 4/.on x to b/final b/"
	const fuel = "state a/.enter do send w 2 do send x 3 do send y 3 do send z 4/.on x do raise x/"
	wantRuns(t, []run{
		{done, "@9", "0: a; x 3: b"},
		{done, "@9 @10 e @3", "0: a; x 3: b; ErrDone; ErrDone; ErrDone"},
		{fuel, "@9", "0: a; w 2: a; x 3: a ErrFuel"},
		{fuel, "@9 @10 e @3", "0: a; w 2: a; x 3: a ErrFuel; ErrFuel; ErrFuel; ErrFuel"},
		// sixty events in the turn of a timer, its own among them
		{"state a/.enter do send x 3 do send y 4/.on x" + strings.Repeat(" do raise n", 59) + "/", "@9", "0: a; x 3: a; y 4: a"},
		{"state a/.enter do send x 3 do send y 4/.on x" + strings.Repeat(" do raise n", 60) + "/", "@9", "0: a; x 3: a ErrFuel"},
		// each turn of a reading has its own sixty
		{"state a/.enter" + sends(3, "send x 3") + "/.on x" + strings.Repeat(" do raise n", 59) + "/", "@9", "0: a; x 3: a; x 3: a; x 3: a"},
	})
	wantRests(t, []rest{
		{done, "@9", 3, "y 3; z 4"},
		{done, "@9 @10 e", 3, "y 3; z 4"},
		{fuel, "@9", 3, "y 3; z 4"},
		{fuel, "@9 @10 e", 3, "y 3; z 4"},
		{"state a/.after 5 to b/.on x to b/state b/.after 7 to c/final c/.enter do send y 2/", "@100 @200", 12, "y 14"},
	})
}

// TestEnded: of a session that was ended by its start or by an event.
func TestEnded(t *testing.T) {
	const start = "final a/.enter do send x 3/"
	const event = "state a/.enter do send x 5/.on e to b/final b/.enter do send y 1/"
	const loop = "state a/.enter do send x 5/.on e do raise e/"
	const startLoop = "state a/.enter do send x 5 do raise e/.on e do raise e/"
	wantRuns(t, []run{
		{start, "@0 @3 @9 e", "0: a; ErrDone; ErrDone; ErrDone; ErrDone"},
		{event, "@4 e @4 @9", "0: a; e 4: b; ErrDone; ErrDone"},
		{loop, "@4 e @4 @9", "0: a; e 4: a ErrFuel; ErrFuel; ErrFuel"},
		{startLoop, "@0 @9", "0: a ErrFuel; ErrFuel; ErrFuel"},
	})
	wantRests(t, []rest{
		{start, "", 0, "x 3"},
		{start, "@9 e", 0, "x 3"},
		{event, "@4 e", 4, "x 5; y 5"},
		{event, "@4 e @9 e", 4, "x 5; y 5"},
		{loop, "@4 e @9 e", 4, "x 5"},
		{startLoop, "@9", 0, "x 5"},
	})
}

// TestPendingAnswersAlike: to ask changes nothing.
func TestPendingAnswersAlike(t *testing.T) {
	const chart = "state a/.enter do send x 70 do send y 3 do send z 70 do send v 100000000000/.on y do send w 67/"
	s := text(chart)
	want := play(t, s, "@2 @3 @70 @100000000000")
	x, steps, err := charts.Start(s)
	got := []string{beside(t, steps, err)}
	for _, raw := range []uint64{2, 3, 70, 100000000000} {
		before := waits(x.Pending())
		if again := waits(x.Pending()); again != before {
			t.Errorf("P11: %s, then %s", before, again)
		}
		steps, err := x.Clock(raw)
		if len(steps) > 0 {
			got = append(got, beside(t, steps, err))
		}
	}
	if strings.Join(got, "; ") != want {
		t.Errorf("P11:\n got %s\nwant %s", strings.Join(got, "; "), want)
	}
}

const ticking = "parallel p/.state a/..state b/...after 7 to c/..state c/...after 11 to b do send x 4096/.state d/..state e/...after 64 to f/..state f/...after 300 do send y 1/...on y to e/...on x to e/.after 100000 to p/"

// TestManyReadings: many readings in the place of one tell the same.
func TestManyReadings(t *testing.T) {
	r := rand.New(rand.NewSource(11))
	for range 100 {
		one, _, _ := charts.Start(text(ticking))
		many, _, _ := charts.Start(text(ticking))
		at := uint64(0)
		for range 30 {
			from := at
			at += uint64(r.Intn(600))
			want, err := one.Clock(at)
			var got []api.Step
			for k := from; err == nil && k <= at; k += uint64(1 + r.Intn(200)) {
				steps, _ := many.Clock(k - uint64(r.Intn(3))*k/4)
				got = append(got, steps...)
			}
			steps, _ := many.Clock(at)
			got = append(got, steps...)
			if err != nil || told(got) != told(want) || one.Now() != many.Now() || waits(one.Pending()) != waits(many.Pending()) {
				t.Fatalf("P11: to %d, %v:\n one %s\nmany %s", at, err, told(want), told(got))
			}
		}
	}
}
