package charts_test

import (
	"math/rand"
	"regexp"
	"strings"
	"testing"

	"charts/api"
	"charts/charts"
)

// wantSyntax asks whether this line, in the midst of a text, is one of P2's.
func wantSyntax(t *testing.T, line string, ok bool) {
	t.Helper()
	s := "state top\n " + line + "\nstate end\n"
	_, err := charts.Lower(s)
	e, at := api.Tell(err)
	if ok && e == api.ErrSyntax || !ok && (e != api.ErrSyntax || at != 2) {
		t.Errorf("P2: line %q: %v, want it to be right: %v", line, err, ok)
	}
}

func TestLines(t *testing.T) {
	for _, l := range []string{
		"state a", "parallel a", "final a", "history a", "history a deep", "history deep", "history deep deep",
		"on x", "on x to a", "on x do raise y", "on x to a do raise y", "on done.a", "on done.a to b do cancel c",
		"after 0", "after 1 to a", "after 1 do raise y", "after 1 to a do raise y",
		"enter do raise x", "leave do raise x", "enter do raise x do raise x do cancel y do send z 1 do send z 1 as y",
		"on to to to", "on do do raise do", "on on to do do send as 5 as as do cancel do", "state state", "on after to after", "after 5 to after",
		"state a_", "state a0", "state a_0b", "on done", "on done.done", "state z__", "enter do raise done",
	} {
		wantSyntax(t, l, true)
	}
	for _, l := range []string{
		"", " ", "a", "state", "parallel", "final", "history", "state a b", "state a deep", "parallel a deep", "final a deep", "history a b", "history a deep deep",
		"on", "on x to", "on x y", "on x to a b", "on x to a to b", "on x do", "on x to do raise y", "on x do raise y to a", "on x do jump a", "on x raise y", "on 1",
		"after", "after x", "after after.3", "after 1 to", "after 1 to 2", "after 1 2", "after 1 do", "after to a", "after 1 as x",
		"enter", "leave", "enter do", "leave do", "enter x", "enter to a", "enter do raise", "enter do cancel", "enter do send", "enter do send x",
		"enter do raise x y", "enter do cancel x y", "enter do send x 1 y", "enter do send x 1 as", "enter do send x 1 as y z", "enter do send x as y", "enter do send 1 x", "enter do send x 1 as y as z", "enter do do raise x", "enter do raise x do", "enter raise x", "enter to do raise x",
		"State a", "STATE a", "states a", "stat a", "state A", "state aB", "state 1", "state _", "state a-b", "state a.b", "state é", "state aé", "state a\x00", "state \xff",
		"state  a", "state a ", "state a  ", "state\ta", "\tstate a", "state a\t", "state a\r", "state\u00a0a", "\u00a0state a", "on x  to a", "on x to  a", "on x do raise y ",
	} {
		wantSyntax(t, l, false)
	}
}

// TestNamesOfLines: wherever a name stands, it has eight bytes at most.
func TestNamesOfLines(t *testing.T) {
	forms := []string{"state N", "parallel N", "final N", "history N", "history N deep", "on N", "on done.N", "on x to N", "after 1 to N", "enter do raise N", "enter do send N 1", "enter do send N 1 as x", "leave do send x 1 as N", "leave do cancel N"}
	for _, f := range forms {
		for _, n := range []string{"a", "z", "abcdefgh", "a0123456", "a_______"} {
			wantSyntax(t, strings.Replace(f, "N", n, 1), true)
		}
		for _, n := range []string{"", "abcdefghi", "A", "aB", "0", "0a", "_a", "a-", "a.", ".a", "a{", "a`", "a:", "a/", "ä"} {
			wantSyntax(t, strings.Replace(f, "N", n, 1), false)
		}
	}
}

func TestEventsOfLines(t *testing.T) {
	own := []string{"enter do raise E", "enter do send E 1", "enter do send x 1 as E", "leave do cancel E", "on x do raise E", "after 1 do cancel E"}
	good := []string{"after.1", "after.9", "after.10", "after.999", "after.1500"}
	bad := []string{"after.", "after.0", "after.01", "after.00", "after.1501", "after.2000", "after.15000", "after.+1", "after.-1", "after.1.", "after.1a", "after.x", "after.18446744073709551617", "After.1", "done.", "done.A", "done.abcdefghi", "done.after.1", "done.done.a", "after.done.a", "done.1", "x.a", "do.a"}
	for _, f := range append(own, "on E") {
		for _, e := range good {
			wantSyntax(t, strings.Replace(f, "E", e, 1), true)
		}
		for _, e := range bad {
			wantSyntax(t, strings.Replace(f, "E", e, 1), false)
		}
	}
	for _, f := range own {
		wantSyntax(t, strings.Replace(f, "E", "done.a", 1), false)
	}
	for _, f := range []string{"state E", "history E", "on x to E", "after 1 to E", "on done.E"} {
		wantSyntax(t, strings.Replace(f, "E", "after.1", 1), false)
	}
}

func TestDelaysOfLines(t *testing.T) {
	for _, f := range []string{"after D", "after D to a", "after D do raise x", "enter do send x D", "enter do send x D as y"} {
		for _, d := range []string{"0", "1", "9", "10", "18446744073709551615"} {
			wantSyntax(t, strings.Replace(f, "D", d, 1), true)
		}
		for _, d := range []string{"", "00", "01", "-1", "-0", "+1", "1_0", "0x1", "1e3", "1.0", "1a", "a1", "١", "18446744073709551616", "18446744073709551620", "99999999999999999999", "100000000000000000000", "36893488147419103233", "018446744073709551615"} {
			wantSyntax(t, strings.Replace(f, "D", d, 1), false)
		}
	}
}

func TestLength(t *testing.T) {
	most := "state a\n" + strings.Repeat(" on x\n", 247)
	wantChart(t, most+" on xabcd\n")
	if n := len(most + " on xabcd\n"); n != api.MaxText {
		t.Fatalf("the text has %d bytes", n)
	}
	wantFault(t, most+" on xabcde\n", api.ErrLong, 0)
	wantFault(t, most+" on xabc \n", api.ErrSyntax, 249)
	wantFault(t, strings.Repeat("x", api.MaxText), api.ErrSyntax, 1)
	wantFault(t, strings.Repeat("\n", api.MaxText), api.ErrSyntax, 1)
	for _, s := range []string{"x\n", " state a\n", "history h\n", "state a\nstate a\n", "\n"} {
		wantFault(t, s+strings.Repeat("\n", api.MaxText+1-len(s)), api.ErrLong, 0)
	}
	wantFault(t, strings.Repeat("state a\n", 1<<17), api.ErrLong, 0)
}

func TestEnds(t *testing.T) {
	wantFault(t, "", api.ErrSyntax, 1)
	wantFault(t, "\n", api.ErrSyntax, 1)
	wantFault(t, "state a", api.ErrSyntax, 1)
	wantFault(t, " ", api.ErrSyntax, 1)
	wantFault(t, "state a\n on x", api.ErrSyntax, 2)
	wantFault(t, "state a\n ", api.ErrSyntax, 2)
	wantFault(t, "state a\n\n", api.ErrSyntax, 2)
	wantFault(t, "\nstate a\n", api.ErrSyntax, 1)
	wantFault(t, "state a\n\non x", api.ErrSyntax, 2)
	wantFault(t, "state a\r\n", api.ErrSyntax, 1)
	wantFault(t, "state a\rstate b\n", api.ErrSyntax, 1)
	wantFault(t, "state a\n on x\n x\n y\n", api.ErrSyntax, 3)
}

// TestGrammar holds lines of words that fit and words that do not against the table of P2, written as a pattern.
func TestGrammar(t *testing.T) {
	const name, delay, reserved = `[a-z][a-z0-9_]{0,7}`, `(0|[1-9][0-9]*)`, `after\.([1-9][0-9]{0,2}|1[0-4][0-9]{2}|1500)`
	own := `(` + name + `|` + reserved + `)`
	action := `( do (raise ` + own + `|send ` + own + ` ` + delay + `( as ` + own + `)?|cancel ` + own + `))`
	move := `( to ` + name + `)?` + action + `*`
	pattern := regexp.MustCompile(`^ *((state|parallel|final) ` + name + `|history ` + name + `( deep)?|on (` + own + `|done\.` + name + `)` + move + `|after ` + delay + move + `|(enter|leave)` + action + `+)$`)
	vocabulary := strings.Split("state history deep on to after enter leave do do do raise send as cancel a x9 5 0 07 after.7 after.0 done.a", " ")
	r := rand.New(rand.NewSource(2))
	right := 0
	for range 300000 {
		words := make([]string, 1+r.Intn(7))
		for i := range words {
			words[i] = vocabulary[r.Intn(len(vocabulary))]
		}
		line := strings.Join(words, " ")
		fits := pattern.MatchString(line)
		if fits {
			right++
		}
		wantSyntax(t, line, fits)
	}
	if right < 1000 {
		t.Errorf("only %d of the lines are right: they show too little", right)
	}
}
