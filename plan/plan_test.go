package plan

import (
	"strings"
	"testing"

	"charts/lower"
	"charts/reader"
	"charts/states"
)

const sample = "state m\n state a\n parallel p\n  history h\n  state b\n   state c\n   final d\n  state e\n   final f\n history g deep\n on x to b\nstate o\n on x\n on x to m\n after 5 to g\n"

func newPlan(t *testing.T, text string) *Plan {
	t.Helper()
	c, err := reader.Read(text)
	if err != nil {
		t.Fatal(err)
	}
	return New(lower.Delays(c))
}

func names(p *Plan, s states.Set) string {
	var out []string
	for i := range s.Forward() {
		out = append(out, p.States[i].Name)
	}
	return strings.Join(out, " ")
}

// named is the set of the states of these names.
func named(p *Plan, list string) states.Set {
	var s states.Set
	for i := range p.States {
		if strings.Contains(list, p.States[i].Name) {
			s |= states.One(i)
		}
	}
	return s
}

func TestStates(t *testing.T) {
	p := newPlan(t, sample)
	for i, want := range [][5]string{
		{"m", "a p", "a p h b c d e f g", "", "m a"},
		{"a", "", "", "m", "a"},
		{"p", "b e", "h b c d e f", "m", "p b c e f"},
		{"h", "", "", "m p", "h"},
		{"b", "c d", "c d", "m p", "b c"},
		{"c", "", "", "m p b", "c"},
		{"d", "", "", "m p b", "d"},
		{"e", "f", "f", "m p", "e f"},
		{"f", "", "", "m p e", "f"},
		{"g", "", "", "m", "g"},
		{"o", "", "", "", "o"},
	} {
		s := p.States[i]
		got := [5]string{s.Name, names(p, s.Parts), names(p, s.Inside), names(p, s.Around), names(p, s.With)}
		if got != want || s.Done != "done."+s.Name {
			t.Errorf("P6: %q, %q, want %q", got, s.Done, want)
		}
	}
}

func TestInnermost(t *testing.T) {
	p := newPlan(t, sample)
	for _, c := range [][2]string{{"", ""}, {"o", "o"}, {"ma", "a"}, {"mpbcef", "c f"}} {
		if got := names(p, p.Innermost(named(p, c[0]))); got != c[1] {
			t.Errorf("P8: innermost of %q: %q, want %q", c[0], got, c[1])
		}
	}
}

func TestAtEnd(t *testing.T) {
	p := newPlan(t, sample)
	for _, c := range []struct {
		active, ends string
	}{
		{"o", ""}, {"ma", ""}, {"mpbce", ""}, {"mpbcef", "e"}, {"mpbdef", "p b e"},
	} {
		var at states.Set
		for i := range p.States {
			if p.AtEnd(i, named(p, c.active)) {
				at |= states.One(i)
			}
		}
		if got := names(p, at); got != c.ends {
			t.Errorf("P8: of %q at their end: %q, want %q", c.active, got, c.ends)
		}
	}
}

func TestWanted(t *testing.T) {
	p := newPlan(t, sample)
	for _, c := range []struct {
		event, innermost, leaves, enters string
	}{
		{"x", "a", "m a p h b c d e f g o", "m p b c e f"},
		{"x", "cf", "m a p h b c d e f g o", "m p b c e f"},
		{"x", "o", "", ""},
		{"after.15", "o", "m a p h b c d e f g o", "m a"},
	} {
		list := p.Wanted(c.event, named(p, c.innermost))
		if len(list) != 1 {
			t.Errorf("P8: %d moves for %q", len(list), c.innermost)
			continue
		}
		if l, e := names(p, list[0].Leaves), names(p, list[0].Enters(&Kept{})); l != c.leaves || e != c.enters {
			t.Errorf("P8: the move for %q leaves %q and enters %q, want %q and %q", c.innermost, l, e, c.leaves, c.enters)
		}
	}
	if list := p.Wanted("y", named(p, "ao")); len(list) > 0 {
		t.Errorf("P8: %d moves at an event that none awaits", len(list))
	}
}

func TestHistories(t *testing.T) {
	p := newPlan(t, sample)
	for i, want := range [][3]string{{"h", "p", "b e"}, {"g", "m", "c f"}} {
		h := p.Histories[i]
		got := [3]string{p.States[h.Index].Name, p.States[h.Owner].Name, names(p, h.Keep(named(p, "mpbcef")))}
		if got != want {
			t.Errorf("P8: %q, want %q", got, want)
		}
	}
	var kept Kept
	kept[9] = named(p, "df")
	if got := names(p, p.Wanted("after.15", named(p, "o"))[0].Enters(&kept)); got != "m p b d e f" {
		t.Errorf("P8: a move to the deep history enters %q", got)
	}
}
