package reader

import (
	"reflect"
	"testing"

	"charts/api"
	"charts/model"
)

func TestRead(t *testing.T) {
	got, err := Read("parallel p\n state a\n  on x to b do raise y\n  after 5 do send y 1 as z\n history h\n leave do cancel z\nfinal b\n enter do send y 0\n")
	if err != nil {
		t.Fatal(err)
	}
	y, z := model.Named{Name: "y"}, model.Named{Name: "z"}
	want := []model.State{
		{Kind: model.Parallel, Name: "p", Owner: model.None, Parts: []int{1, 2}, Leave: []model.Action{model.Cancel{Named: z}}},
		{Kind: model.Plain, Name: "a", Depth: 1, Owner: 0, Moves: []model.Move{
			{Event: "x", To: "b", Actions: []model.Action{model.Raise{Named: y}}},
			{Event: "after.4", Timed: true, Delay: 5, Actions: []model.Action{model.SendAs{Send: model.Send{Named: y, Delay: 1}, As: "z"}}},
		}},
		{Kind: model.History, Name: "h", Depth: 1, Owner: 0},
		{Kind: model.Final, Name: "b", Owner: model.None, Enter: []model.Action{model.Send{Named: y}}},
	}
	if !reflect.DeepEqual(got.States, want) {
		t.Errorf("P3: Read = %+v, want %+v", got.States, want)
	}
}

// TestOwners: lines belong to the last state one less deep, if nothing less deep stands between.
func TestOwners(t *testing.T) {
	c, err := Read("state a\n state b\n  state c\n  state d\n state e\n  history f\nstate g\n state h\n")
	if e, line := api.Tell(err); e != api.ErrTree || line != 6 {
		t.Errorf("P3: Read = %v, %v", c, err)
	}
	c, err = Read("state a\n state b\n  state c\n  state d\n  history i deep\n state e\n  state f\n on x\nstate g\n state h\n  on y\n on z\n")
	if err != nil {
		t.Fatal(err)
	}
	owners := map[string]string{"b": "a", "c": "b", "d": "b", "i": "b", "e": "a", "f": "e", "h": "g"}
	moves := map[string]string{"a": "x", "h": "y", "g": "z"}
	for i, s := range c.States {
		owner := ""
		if s.Owner != model.None {
			owner = c.States[s.Owner].Name
		}
		event := ""
		for _, m := range s.Moves {
			event += m.Event
		}
		if owner != owners[s.Name] || event != moves[s.Name] {
			t.Errorf("P3: state %d, %q: belongs to %q, awaits %q", i, s.Name, owner, event)
		}
	}
}
