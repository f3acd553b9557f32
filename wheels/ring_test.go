package wheels

import (
	"slices"
	"testing"
)

func ringOf(list ...int) ring[int] {
	var r ring[int]
	for _, what := range list {
		r.push(&node[int]{what: what})
	}
	return r
}

// firsts goes through a ring, as far as its first n nodes.
func firsts(r ring[int], n int) []int {
	var out []int
	for one := range r.nodes() {
		out = append(out, one.what)
		if len(out) == n {
			break
		}
	}
	return out
}

// TestRing: nodes come out in the order in which they were put there.
func TestRing(t *testing.T) {
	for n := range 5 {
		list := []int{7, 8, 9, 10}[:n]
		r := ringOf(list...)
		for k := range n {
			if got := firsts(r, k+1); !slices.Equal(got, list[:k+1]) {
				t.Errorf("%v, want %v", got, list[:k+1])
			}
		}
		for _, want := range list {
			if got := r.pop(); got.what != want {
				t.Errorf("%d, want %d", got.what, want)
			}
		}
		if !r.isEmpty() || len(firsts(r, n)) > 0 {
			t.Errorf("%v are left", firsts(r, n))
		}
		r.push(&node[int]{what: 3})
		if got := firsts(r, 9); !slices.Equal(got, []int{3}) {
			t.Errorf("%v, want 3", got)
		}
	}
}

// TestRingDrop: the others stay in their order.
func TestRingDrop(t *testing.T) {
	for of, want := range [][]int{1: {}, 2: {1, 3}, 3: {1, 2, 4}, 4: {1, 2, 3}, 5: {1, 2, 3, 4}} {
		if of == 0 {
			continue
		}
		r := ringOf(1, 2, 3, 4)
		r.drop(func(what int) bool { return what%of == 0 })
		if got := firsts(r, 9); !slices.Equal(got, want) {
			t.Errorf("%v, want %v", got, want)
		}
	}
}
