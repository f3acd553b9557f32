package charts_test

import (
	"errors"
	"math/rand"
	"strings"
	"testing"

	"charts/api"
	"charts/charts"
)

// checkAnswer asks for what holds of the answer to every text.
func checkAnswer(t *testing.T, s string) {
	t.Helper()
	out, err := charts.Lower(s)
	if err != nil {
		checkFault(t, s, out, err)
		return
	}
	// What comes out is a chart that has nothing left to lower.
	if len(out) <= api.MaxText {
		wantLower(t, out, out)
	}
}

func checkFault(t *testing.T, s, out string, err error) {
	t.Helper()
	var f *api.Fault
	if !errors.As(err, &f) || out != "" {
		t.Fatalf("P1: Lower(%q) = %q, %v", s, out, err)
	}
	long := len(s) > api.MaxText
	if long != (f.Err == api.ErrLong) || long != (f.Line == 0) {
		t.Fatalf("P1: Lower(%q) = %v", s, err)
	}
	if f.Err < api.ErrLong || f.Err > api.ErrName || f.Line > strings.Count(s, "\n")+1 {
		t.Fatalf("P1: Lower(%q) = %v", s, err)
	}
}

const rich = "parallel p/.enter do raise e do send x 3/.state a/..after 7 to b do cancel x/..state c/...on done.p to h/..history h/.state b/..leave do send y 0 as z/..final f/.history g deep/.after 0/state d/.on e to g/"

// TestSpoiltTexts: no text makes the call panic, or answer what it may not.
func TestSpoiltTexts(t *testing.T) {
	whole := text(rich)
	checkAnswer(t, whole)
	for i := range len(whole) {
		checkAnswer(t, whole[:i])
		checkAnswer(t, whole[i:])
		checkAnswer(t, whole[:i]+whole[i+1:])
		for _, b := range []byte{0, ' ', '\n', '\r', '\t', '.', '0', 'a', 'A', '_', 0x80, 0xff} {
			checkAnswer(t, whole[:i]+string([]byte{b})+whole[i:])
			checkAnswer(t, whole[:i]+string([]byte{b})+whole[i+1:])
		}
	}
}

// TestMixedLines: the same for lines that are right by themselves, in whatever order.
func TestMixedLines(t *testing.T) {
	r := rand.New(rand.NewSource(1))
	heads := []string{"state ", "parallel ", "final ", "history "}
	others := []string{"on x to a", "on after.9", "after 4 to b", "enter do raise x", "leave do cancel x"}
	faultless := 0
	for range 40000 {
		var b strings.Builder
		for range 1 + r.Intn(7) {
			b.WriteString(strings.Repeat(" ", r.Intn(3)))
			if r.Intn(2) == 0 {
				b.WriteString(heads[r.Intn(len(heads))] + string(rune('a'+r.Intn(6))))
			} else {
				b.WriteString(others[r.Intn(len(others))])
			}
			b.WriteByte('\n')
		}
		checkAnswer(t, b.String())
		if isChart(b.String()) {
			faultless++
		}
	}
	if faultless < 100 {
		t.Errorf("only %d of the texts are charts: they show too little", faultless)
	}
}

func isChart(s string) bool {
	_, err := charts.Lower(s)
	return err == nil
}

// TestSameAnswer: what a call answers hangs on its text alone.
func TestSameAnswer(t *testing.T) {
	first, _ := charts.Lower(text(rich))
	charts.Lower("state a")
	for range 20 {
		wantLower(t, text(rich), first)
	}
}

func FuzzLower(f *testing.F) {
	f.Add(text(rich))
	f.Add("")
	f.Add("state a\n on x")
	f.Fuzz(func(t *testing.T, s string) { checkAnswer(t, s) })
}
