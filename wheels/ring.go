package wheels

import (
	"cmp"
	"iter"
	"slices"
)

// node is one thing that waits.
type node[T any] struct {
	at   uint64
	what T
	next *node[T]
}

// ring is nodes in the order in which they were put there. It is held by its last one, behind which the first comes again.
type ring[T any] struct {
	last *node[T]
}

func (r *ring[T]) isEmpty() bool { return r.last == nil }

func (r *ring[T]) push(n *node[T]) {
	if r.isEmpty() {
		n.next = n
	} else {
		n.next = r.last.next
		r.last.next = n
	}
	r.last = n
}

// pop takes the first node out of a ring that has one.
func (r *ring[T]) pop() *node[T] {
	first := r.last.next
	if first == r.last {
		r.last = nil
	} else {
		r.last.next = first.next
	}
	return first
}

// nodes goes through the ring. What it yields may be put into another ring.
func (r ring[T]) nodes() iter.Seq[*node[T]] {
	return func(yield func(*node[T]) bool) {
		if r.isEmpty() {
			return
		}
		n := r.last.next
		for {
			next := n.next
			if !yield(n) || n == r.last {
				return
			}
			n = next
		}
	}
}

// byTime is the nodes in the order of their times; of those of one time, the first in the ring comes first.
func (r ring[T]) byTime() []*node[T] {
	return slices.SortedStableFunc(r.nodes(), func(a, b *node[T]) int { return cmp.Compare(a.at, b.at) })
}

// drop takes out what is not wanted.
func (r *ring[T]) drop(unwanted func(T) bool) {
	old := *r
	r.last = nil
	for n := range old.nodes() {
		if !unwanted(n.what) {
			r.push(n)
		}
	}
}
