package states

import (
	"slices"
	"testing"
)

func set(list ...int) Set {
	var s Set
	for _, i := range list {
		s |= One(i)
	}
	return s
}

func TestSet(t *testing.T) {
	for _, list := range [][]int{{}, {0}, {23}, {0, 23}, {3, 4, 9, 17}, {0, 1, 2, 3, 4, 5, 6, 7, 8, 9, 10, 11, 12, 13, 14, 15, 16, 17, 18, 19, 20, 21, 22, 23}} {
		s := set(list...)
		if got := slices.Collect(s.Forward()); !slices.Equal(got, list) {
			t.Errorf("Forward of %v: %v", list, got)
		}
		back := slices.Clone(list)
		slices.Reverse(back)
		if got := slices.Collect(s.Backward()); !slices.Equal(got, back) {
			t.Errorf("Backward of %v: %v", list, got)
		}
		for i := range 24 {
			if s.Has(i) != slices.Contains(list, i) {
				t.Errorf("Has(%d) of %v: %v", i, list, s.Has(i))
			}
		}
		last := -1
		if len(list) > 0 {
			last = back[0]
		}
		if s.Len() != len(list) || s.Last() != last {
			t.Errorf("Len and Last of %v: %d, %d", list, s.Len(), s.Last())
		}
	}
}

// TestBreak: going through a set may be broken off.
func TestBreak(t *testing.T) {
	var seen []int
	for i := range set(2, 5, 7).Forward() {
		seen = append(seen, i)
		if i == 5 {
			break
		}
	}
	for i := range set(2, 5, 7).Backward() {
		seen = append(seen, i)
		if i == 5 {
			break
		}
	}
	if !slices.Equal(seen, []int{2, 5, 7, 5}) {
		t.Errorf("seen: %v", seen)
	}
}
