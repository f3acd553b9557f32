package lower

import (
	"reflect"
	"testing"

	"charts/model"
)

func timed(event string, delay uint64) model.Move {
	return model.Move{Event: event, Timed: true, Delay: delay}
}

// spare gives a list with room behind it, into which an append must not write.
func spare(a model.Action) []model.Action { return append(make([]model.Action, 0, 8), a) }

func sample() *model.Chart {
	e, l := model.Raise{Named: model.Named{Name: "e"}}, model.Raise{Named: model.Named{Name: "l"}}
	return &model.Chart{States: []model.State{{
		Name: "a", Owner: model.None, Enter: spare(e), Leave: spare(l),
		Moves: []model.Move{timed("after.2", 5), {Event: "x"}, timed("after.4", 0)},
	}}}
}

func TestDelays(t *testing.T) {
	c := sample()
	got := Delays(c).States[0]
	if !reflect.DeepEqual(c, sample()) || c.States[0].Enter[:2][1] != nil || c.States[0].Leave[:2][1] != nil {
		t.Errorf("P5: Delays has changed what was handed in: %+v", c)
	}
	for _, m := range got.Moves {
		if m.Timed || m.Delay != 0 {
			t.Errorf("P5: a move is still behind a delay: %+v", m)
		}
	}
	two, four := model.Named{Name: "after.2"}, model.Named{Name: "after.4"}
	enter := append(sample().States[0].Enter,
		model.SendAs{Send: model.Send{Named: two, Delay: 5}, As: "after.2"},
		model.SendAs{Send: model.Send{Named: four}, As: "after.4"})
	leave := append(sample().States[0].Leave, model.Cancel{Named: two}, model.Cancel{Named: four})
	if !reflect.DeepEqual(got.Enter, enter) || !reflect.DeepEqual(got.Leave, leave) {
		t.Errorf("P5: Delays = %+v", got)
	}
}

func TestText(t *testing.T) {
	want := "state a\n enter do raise e do send after.2 5 as after.2 do send after.4 0 as after.4\n leave do raise l do cancel after.2 do cancel after.4\n on after.2\n on x\n on after.4\n"
	if got := Text(sample()); got != want {
		t.Errorf("P5: Text = %q, want %q", got, want)
	}
	if got := Text(&model.Chart{}); got != "" {
		t.Errorf("P5: Text of nothing = %q", got)
	}
}
