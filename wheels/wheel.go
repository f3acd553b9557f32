package wheels

import (
	"iter"
	"math/bits"
)

// wheel is one wheel: its slots, and the bits of those that hold something.
type wheel[T any] struct {
	slots [slotCount]ring[T]
	held  uint64
}

// mark brings the bit of a slot in line with what the slot holds.
func (w *wheel[T]) mark(slot int) {
	if w.slots[slot].isEmpty() {
		w.held &^= 1 << slot
	} else {
		w.held |= 1 << slot
	}
}

func (w *wheel[T]) push(slot int, n *node[T]) {
	w.slots[slot].push(n)
	w.mark(slot)
}

func (w *wheel[T]) pop(slot int) *node[T] {
	n := w.slots[slot].pop()
	w.mark(slot)
	return n
}

// empty takes all out of a slot.
func (w *wheel[T]) empty(slot int) ring[T] {
	r := w.slots[slot]
	w.slots[slot] = ring[T]{}
	w.mark(slot)
	return r
}

func (w *wheel[T]) drop(unwanted func(T) bool) {
	for slot := range w.heldSlots() {
		w.slots[slot].drop(unwanted)
		w.mark(slot)
	}
}

// heldSlots goes through the slots that hold something.
func (w *wheel[T]) heldSlots() iter.Seq[int] {
	return func(yield func(int) bool) {
		for left := w.held; left != 0; left &= left - 1 {
			if !yield(bits.TrailingZeros64(left)) {
				return
			}
		}
	}
}
