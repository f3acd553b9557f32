package wheels

import (
	"math"
	"math/rand"
	"slices"
	"testing"
)

const greatest = math.MaxUint64

// edges are the widths of all slots, and of all that is further away, with their neighbours.
func edges() []uint64 {
	list := []uint64{0, greatest - 1, greatest}
	for shift := 0; shift < 64; shift += digitBits {
		one := uint64(1) << shift
		list = append(list, one-1, one, one+1, 2*one, 63*one, 64*one-1)
	}
	return append(list, 1<<63-1, 1<<63, 1<<63+1)
}

// check asks for what holds of all wheels: each thing is where its time belongs, and the bits tell which slots hold something.
func check(t *testing.T, w *Wheels[int]) {
	t.Helper()
	for k := range w.wheels {
		for slot, r := range w.wheels[k].slots {
			if held := w.wheels[k].held>>slot&1 == 1; held == r.isEmpty() {
				t.Fatalf("wheel %d, slot %d: the bit is %v", k, slot, held)
			}
			for n := range r.nodes() {
				if gotK, gotSlot := w.spot(n.at); gotK != k || gotSlot != slot || n.at < w.now {
					t.Fatalf("at %d: %d waits in wheel %d, slot %d", w.now, n.at, k, slot)
				}
			}
		}
	}
	for n := range w.outside.nodes() {
		if k, _ := w.spot(n.at); k != wheelCount {
			t.Fatalf("at %d: %d waits outside", w.now, n.at)
		}
	}
}

// item is something that waits in a list, by which the wheels are told whether they are right.
type item struct {
	at   uint64
	what int
}

// list is what waits, in the order in which it was added.
type list struct {
	now   uint64
	items []item
}

func (l *list) add(delay uint64, what int) {
	at := uint64(greatest)
	if delay <= greatest-l.now {
		at = l.now + delay
	}
	l.items = append(l.items, item{at, what})
}

func (l *list) drop(unwanted func(int) bool) {
	l.items = slices.DeleteFunc(l.items, func(i item) bool { return unwanted(i.what) })
}

// take takes out the first that comes up to t; it answers false, and goes to t, if there is none.
func (l *list) take(t uint64) (int, bool) {
	best := -1
	for i, one := range l.items {
		if one.at <= t && (best < 0 || one.at < l.items[best].at) {
			best = i
		}
	}
	if best < 0 {
		l.now = t
		return 0, false
	}
	one := l.items[best]
	l.now = one.at
	l.items = slices.Delete(l.items, best, best+1)
	return one.what, true
}

func (l *list) inOrder() []item {
	c := list{now: l.now, items: slices.Clone(l.items)}
	var out []item
	for {
		what, ok := c.take(greatest)
		if !ok {
			return out
		}
		out = append(out, item{c.now, what})
	}
}

func waiting(w *Wheels[int]) []item {
	var out []item
	for at, what := range w.All() {
		out = append(out, item{at, what})
	}
	return out
}

// both are wheels, and the list that must have the same.
type both struct {
	w    Wheels[int]
	l    list
	next int
}

func (b *both) add(delay uint64) {
	b.w.Add(delay, b.next)
	b.l.add(delay, b.next)
	b.next++
}

func (b *both) drop(unwanted func(int) bool) {
	b.w.Drop(unwanted)
	b.l.drop(unwanted)
}

func (b *both) compare(t *testing.T) {
	t.Helper()
	check(t, &b.w)
	want := b.l.inOrder()
	if got := waiting(&b.w); !slices.Equal(got, want) {
		t.Fatalf("at %d: waiting: %v, want %v", b.l.now, got, want)
	}
	if b.w.Now() != b.l.now || b.w.Len() != len(want) {
		t.Fatalf("%d wait at %d, want %d at %d", b.w.Len(), b.w.Now(), len(want), b.l.now)
	}
	for _, reading := range []uint64{0, b.l.now, greatest} {
		due := len(want) > 0 && want[0].at <= max(reading, b.l.now)
		if b.w.HasDue(reading) != due {
			t.Fatalf("at %d: HasDue(%d) is %v; waiting: %v", b.l.now, reading, !due, want)
		}
	}
}

// goTo has both go to t, and does something with both at each thing that comes, until that answers false.
func (b *both) goTo(t *testing.T, reading uint64, each func() bool) {
	t.Helper()
	until := max(reading, b.l.now)
	broken := false
	for got := range b.w.Due(reading) {
		if want, ok := b.l.take(until); !ok || got != want {
			t.Fatalf("to %d: %d comes at %d, want %d at %d, %v", reading, got, b.w.Now(), want, b.l.now, ok)
		}
		b.compare(t)
		if broken = !each(); broken {
			break
		}
	}
	if !broken {
		if what, ok := b.l.take(until); ok {
			t.Fatalf("to %d: %d did not come", reading, what)
		}
	}
	b.compare(t)
}

func goOn() bool { return true }

// TestSpots: six wheels of sixty-four slots, each slot as wide as the wheel below, and what is further away outside.
func TestSpots(t *testing.T) {
	var all Wheels[int]
	if len(all.wheels) != 6 || len(all.wheels[0].slots) != 64 {
		t.Fatalf("%d wheels of %d slots", len(all.wheels), len(all.wheels[0].slots))
	}
	for _, c := range []struct {
		now, at uint64
		k, slot int
	}{
		{0, 0, 0, 0}, {0, 1, 0, 1}, {0, 63, 0, 63},
		{0, 64, 1, 1}, {0, 127, 1, 1}, {0, 128, 1, 2}, {0, 1<<12 - 1, 1, 63},
		{0, 1 << 12, 2, 1}, {0, 1<<18 - 1, 2, 63},
		{0, 1 << 18, 3, 1}, {0, 1<<24 - 1, 3, 63},
		{0, 1 << 24, 4, 1}, {0, 1<<30 - 1, 4, 63},
		{0, 1 << 30, 5, 1}, {0, 1<<36 - 1, 5, 63},
		{5, 5, 0, 5}, {70, 71, 0, 7}, {70, 127, 0, 63}, {70, 128, 1, 2},
		{63, 64, 1, 1}, {1<<12 - 1, 1 << 12, 2, 1}, {1<<30 + 5, 1<<31 + 5, 5, 2},
		{greatest, greatest, 0, 63}, {greatest - 64, greatest, 1, 63}, {greatest - 1<<30, greatest, 5, 63},
	} {
		w := Wheels[int]{now: c.now}
		if k, slot := w.spot(c.at); k != c.k || slot != c.slot {
			t.Errorf("at %d: the spot of %d is %d, %d, want %d, %d", c.now, c.at, k, slot, c.k, c.slot)
		}
	}
	for _, c := range [][2]uint64{{0, 1 << 36}, {0, greatest}, {1<<36 - 1, 1 << 36}, {1 << 36, 1 << 37}, {greatest - 1<<36, greatest}, {0, 1 << 63}} {
		w := Wheels[int]{now: c[0]}
		if k, _ := w.spot(c[1]); k != wheelCount {
			t.Errorf("at %d: the spot of %d is in wheel %d, want outside", c[0], c[1], k)
		}
	}
}

// TestEdges: delays of every size at times of every size; what was added comes in its order, at its time.
func TestEdges(t *testing.T) {
	for _, now := range edges() {
		for _, delay := range edges() {
			var b both
			b.goTo(t, now, goOn)
			for _, d := range []uint64{delay + 1, delay, delay - 1, delay, delay + 1, 0, delay / 2} {
				b.add(d)
			}
			b.compare(t)
			b.goTo(t, now+delay/2, goOn)
			b.add(delay - delay/2)
			b.add(delay)
			b.goTo(t, now+delay-1, goOn)
			b.add(1)
			b.add(0)
			b.goTo(t, now+delay, goOn)
			b.goTo(t, greatest, goOn)
			if b.w.Len() != 0 {
				t.Fatalf("at %d, delay %d: %v are left", now, delay, waiting(&b.w))
			}
		}
	}
}

// TestOneTime: what waits for one time comes in the order in which it was added, from wherever it has come down.
func TestOneTime(t *testing.T) {
	for _, at := range edges() {
		var b both
		b.add(at)
		for _, left := range []uint64{1<<36 + 1, 1 << 36, 1<<36 - 1, 1 << 30, 1<<30 - 1, 1 << 24, 1 << 18, 1 << 12, 4095, 64, 63, 1, 0} {
			if left <= at {
				b.goTo(t, at-left, goOn)
				b.add(left)
			}
		}
		var got []int
		for what := range b.w.Due(at) {
			got = append(got, what)
		}
		if !slices.IsSorted(got) || b.w.Now() != at || b.w.Len() > 0 {
			t.Errorf("for %d: %v, then it is %d, and %v are left", at, got, b.w.Now(), waiting(&b.w))
		}
	}
}

// TestGreatestTime: a sum above the greatest time is the greatest time.
func TestGreatestTime(t *testing.T) {
	for _, c := range [][3]uint64{{0, 0, 0}, {3, 4, 7}, {0, greatest, greatest}, {1, greatest - 1, greatest}, {1, greatest, greatest}, {greatest, 0, greatest}, {greatest, 1, greatest}, {greatest, greatest, greatest}, {1 << 63, 1 << 63, greatest}, {1<<63 - 1, 1 << 63, greatest}, {1<<63 - 1, 1<<63 - 1, greatest - 1}} {
		w := Wheels[int]{now: c[0]}
		w.Add(c[1], 0)
		if got := waiting(&w); got[0].at != c[2] {
			t.Errorf("P10: %d behind %d: %d, want %d", c[1], c[0], got[0].at, c[2])
		}
	}
}

// TestReadings: what waits for the reading itself comes, what waits for the next time does not; a reading behind the time at hand is the time at hand.
func TestReadings(t *testing.T) {
	var b both
	for _, delay := range []uint64{0, 9, 10, 11} {
		b.add(delay)
	}
	for _, c := range []struct {
		reading, now uint64
		left         int
	}{{8, 8, 3}, {3, 8, 3}, {10, 10, 1}, {0, 10, 1}, {greatest, greatest, 0}, {0, greatest, 0}} {
		b.goTo(t, c.reading, goOn)
		if b.w.Now() != c.now || b.w.Len() != c.left {
			t.Errorf("P11: to %d: %d wait at %d, want %d at %d", c.reading, b.w.Len(), b.w.Now(), c.left, c.now)
		}
	}
	b.add(0)
	b.goTo(t, 0, goOn)
	if b.w.Len() != 0 {
		t.Errorf("P11: what waits for the time at hand did not come at a reading behind it")
	}
}

// TestBrokenOff: what is not taken out any more stays, at the time of the last that was.
func TestBrokenOff(t *testing.T) {
	var b both
	for _, delay := range []uint64{5, 70, 70, 5000, 1 << 40} {
		b.add(delay)
	}
	for _, now := range []uint64{5, 70, 70, 5000, 1 << 40} {
		b.goTo(t, greatest, func() bool { return false })
		if b.w.Now() != now {
			t.Errorf("broken off at %d, want %d", b.w.Now(), now)
		}
	}
	for at := range b.w.All() {
		t.Errorf("%d is left", at)
	}
}

// TestAllBrokenOff: going through what waits may be broken off anywhere, and changes nothing.
func TestAllBrokenOff(t *testing.T) {
	var b both
	for _, delay := range []uint64{1 << 40, 5, 70, 5, 75, 6, 1 << 41, 70} {
		b.add(delay)
	}
	want := b.l.inOrder()
	for n := range want {
		var got []item
		for at, what := range b.w.All() {
			got = append(got, item{at, what})
			if len(got) == n+1 {
				break
			}
		}
		if !slices.Equal(got, want[:n+1]) {
			t.Errorf("%v, want %v", got, want[:n+1])
		}
		b.compare(t)
	}
}

// anyDelay is a delay of any size.
func anyDelay(r *rand.Rand) uint64 {
	list := edges()
	switch r.Intn(4) {
	case 0:
		return list[r.Intn(len(list))]
	case 1:
		return uint64(r.Intn(200))
	default:
		return r.Uint64() >> r.Intn(64)
	}
}

// TestAgainstList: whatever is done, in whichever order, wheels have what a plain list has.
func TestAgainstList(t *testing.T) {
	r := rand.New(rand.NewSource(8))
	unwanted := func() func(int) bool {
		of, is := 1+r.Intn(5), r.Intn(5)
		return func(what int) bool { return what%of == is }
	}
	for range 2000 {
		var b both
		meanwhile := func() bool {
			switch r.Intn(12) {
			case 0:
				return false
			case 1, 2, 3:
				b.add(anyDelay(r))
			case 4:
				b.add(0)
			case 5:
				b.drop(unwanted())
			}
			return true
		}
		for range 30 {
			switch r.Intn(6) {
			case 0, 1, 2:
				b.add(anyDelay(r))
			case 3:
				b.drop(unwanted())
			case 4:
				b.goTo(t, b.l.now+anyDelay(r)>>1, meanwhile)
			case 5:
				b.goTo(t, anyDelay(r), meanwhile)
			}
			b.compare(t)
		}
	}
}
