package timers

import (
	"slices"
	"testing"

	"charts/api"
)

func TestStart(t *testing.T) {
	var l Timers
	for i := range api.MaxTimers {
		if !l.Start(Timer{Event: "x", At: uint64(i)}) {
			t.Fatalf("P10: timer %d does not start", i+1)
		}
	}
	if l.Start(Timer{Event: "y"}) || len(l.running) != api.MaxTimers {
		t.Errorf("P10: one timer too many starts: %v", l.running)
	}
}

func TestStop(t *testing.T) {
	all := []Timer{{"x", "i", 3}, {"i", "", 1}, {"y", "j", 2}, {"i", "j", 2}, {"z", "i", 9}}
	for _, c := range []struct {
		name string
		left []Timer
	}{
		{"i", []Timer{all[1], all[2], all[3]}},
		{"j", []Timer{all[0], all[1], all[4]}},
		{"x", all},
	} {
		var l Timers
		for _, one := range all {
			l.Start(one)
		}
		l.Stop(c.name)
		if !slices.Equal(l.running, c.left) {
			t.Errorf("P10: Stop(%q) leaves %v, want %v", c.name, l.running, c.left)
		}
	}
}
