// Package states: sets of a chart's states, as bits.
package states

import (
	"iter"
	"math/bits"
)

// Set is a set of states: the bit of a state's index in the chart tells whether it is in the set.
type Set uint32

// One is the set of one state.
func One(i int) Set { return 1 << i }

// Has tells whether the state is in the set.
func (s Set) Has(i int) bool { return s&One(i) != 0 }

// Last is the last state of the set in the order of the text; -1 if there is none.
func (s Set) Last() int { return bits.Len32(uint32(s)) - 1 }

// Forward goes through the set in the order of the text.
func (s Set) Forward() iter.Seq[int] {
	return func(yield func(int) bool) {
		for left := s; left != 0; left &= left - 1 {
			if !yield(bits.TrailingZeros32(uint32(left))) {
				return
			}
		}
	}
}

// Backward goes through the set, the last of the text first.
func (s Set) Backward() iter.Seq[int] {
	return func(yield func(int) bool) {
		for left := s; left != 0; left &^= One(left.Last()) {
			if !yield(left.Last()) {
				return
			}
		}
	}
}

// Len is how many states are in the set.
func (s Set) Len() int { return bits.OnesCount32(uint32(s)) }
