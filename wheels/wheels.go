// Package wheels: what waits for its time, in wheels of slots.
//
// A time is read as digits of six bits. Wheel 0 has a slot for each time that differs from the time at hand in the last digit alone; wheel k has a slot for each value of digit k, for the times that differ in that one and in none above it. So a slot of a wheel is as wide as the whole wheel below, all that waits for one time stands in one ring, and what stands in a lower wheel, or in a lower slot, comes first.
package wheels

import (
	"iter"
	"math"
	"math/bits"
)

const (
	wheelCount = 6
	digitBits  = 6
	slotCount  = 1 << digitBits
)

// Wheels hold what waits. The zero value holds nothing, and is at time 0.
type Wheels[T any] struct {
	now     uint64
	wheels  [wheelCount]wheel[T]
	outside ring[T] // for the times that differ in a digit above those of the wheels
}

// Now is the time at hand.
func (w *Wheels[T]) Now() uint64 { return w.now }

// Add lets something wait so long, or until the greatest time, if the end of that would be above it.
func (w *Wheels[T]) Add(delay uint64, what T) {
	at := w.now + delay
	if at < w.now { // The sum has wrapped round.
		at = math.MaxUint64
	}
	w.put(&node[T]{at: at, what: what})
}

// Drop takes out what is not wanted.
func (w *Wheels[T]) Drop(unwanted func(T) bool) {
	for k := range w.wheels {
		w.wheels[k].drop(unwanted)
	}
	w.outside.drop(unwanted)
}

// Len is how many things wait.
func (w *Wheels[T]) Len() int {
	count := 0
	for r := range w.rings() {
		for range r.nodes() {
			count++
		}
	}
	return count
}

// All goes through what waits, and its times, in the order of the times; of what waits for one time, that which was added first comes first.
func (w *Wheels[T]) All() iter.Seq2[uint64, T] {
	return func(yield func(uint64, T) bool) {
		for n := range w.nodes() {
			if !yield(n.at, n.what) {
				return
			}
		}
	}
}

// HasDue tells whether something waits for a time not above t, or not above the time at hand, if that is later than t.
func (w *Wheels[T]) HasDue(t uint64) bool {
	first := w.first()
	return first != nil && first.at <= max(t, w.now)
}

// Due takes out what HasDue tells of, one by one, in the order of All; the time of what it yields is the time at hand. Meanwhile more may be added, and dropped. If it is not broken off, t is the time at hand in the end, unless that is later than t already.
func (w *Wheels[T]) Due(t uint64) iter.Seq[T] {
	return func(yield func(T) bool) {
		for w.HasDue(t) {
			if !yield(w.takeFirst()) {
				return
			}
		}
		w.turn(max(t, w.now))
	}
}

// takeFirst makes the time of the first that comes the time at hand, and takes it out.
func (w *Wheels[T]) takeFirst() T {
	w.turn(w.first().at)
	_, slot := w.spot(w.now)
	return w.wheels[0].pop(slot).what
}

// turn makes t the time at hand; nothing may wait for a time ahead of t. So the wheels below the slot of t are empty, and only what is in that slot has to be put anew.
func (w *Wheels[T]) turn(t uint64) {
	shared := w.empty(w.spot(t))
	w.now = t
	for n := range shared.nodes() {
		w.put(n)
	}
}

func (w *Wheels[T]) put(n *node[T]) {
	k, slot := w.spot(n.at)
	if k == wheelCount {
		w.outside.push(n)
		return
	}
	w.wheels[k].push(slot, n)
}

func (w *Wheels[T]) empty(k, slot int) ring[T] {
	if k == wheelCount {
		r := w.outside
		w.outside = ring[T]{}
		return r
	}
	return w.wheels[k].empty(slot)
}

// spot is the wheel and the slot of a time; wheelCount stands for outside.
func (w *Wheels[T]) spot(at uint64) (k, slot int) {
	highest := bits.Len64((at^w.now)|1) - 1
	k = min(highest/digitBits, wheelCount)
	return k, int(at >> (k * digitBits) % slotCount)
}

// first is what comes first; nil if nothing waits.
func (w *Wheels[T]) first() *node[T] {
	for n := range w.nodes() {
		return n
	}
	return nil
}

// nodes goes through all that waits, as All has it.
func (w *Wheels[T]) nodes() iter.Seq[*node[T]] {
	return func(yield func(*node[T]) bool) {
		for r := range w.rings() {
			for _, n := range r.byTime() {
				if !yield(n) {
					return
				}
			}
		}
	}
}

// rings goes through the rings, that which comes first ahead; of the slots, those that hold something.
func (w *Wheels[T]) rings() iter.Seq[ring[T]] {
	return func(yield func(ring[T]) bool) {
		for k := range w.wheels {
			for slot := range w.wheels[k].heldSlots() {
				if !yield(w.wheels[k].slots[slot]) {
					return
				}
			}
		}
		yield(w.outside)
	}
}
