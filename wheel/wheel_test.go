package wheel_test

import (
	"math"
	"slices"
	"testing"

	"vagabond/api"
	"vagabond/wheel"
)

const greatest = math.MaxUint64

// set: an id has a timer at that tick.
func set(t *testing.T, w *wheel.Wheel, id api.ID, at uint64) {
	t.Helper()
	if code := w.Set(id, at); code != api.OK {
		t.Fatalf("Set(%d, %d) at %d: %v", id, at, w.Now(), code)
	}
	stands(t, w, id, at)
}

// stands: an id has a timer at that tick.
func stands(t *testing.T, w *wheel.Wheel, id api.ID, wanted uint64) {
	t.Helper()
	if at, there := w.At(id); at != wanted || !there {
		t.Errorf("At(%d): %d, %v, wanted %d", id, at, there, wanted)
	}
}

// stale: an id can't have a timer at that tick.
func stale(t *testing.T, w *wheel.Wheel, id api.ID, at uint64) {
	t.Helper()
	if code := w.Set(id, at); code != api.ErrStale {
		t.Errorf("Set(%d, %d) at %d: %v", id, at, w.Now(), code)
	}
}

// advances: by that tick those timers go.
func advances(t *testing.T, w *wheel.Wheel, now uint64, wanted ...wheel.Timer) {
	t.Helper()
	gone, code := w.Advance(now)
	if !slices.Equal(gone, wanted) || code != api.OK {
		t.Errorf("Advance(%d): %v, %v, wanted %v", now, gone, code, wanted)
	}
	if w.Now() != now {
		t.Errorf("Advance(%d): it is %d", now, w.Now())
	}
	for _, timer := range gone {
		if at, there := w.At(timer.ID); at != 0 || there {
			t.Errorf("%d is gone: At %d, %v", timer.ID, at, there)
		}
		if code := w.Cancel(timer.ID); code != api.ErrNone {
			t.Errorf("%d is gone: Cancel: %v", timer.ID, code)
		}
	}
}

// has: a wheel's tick and timers, in order.
func has(t *testing.T, w *wheel.Wheel, now uint64, wanted ...wheel.Timer) {
	t.Helper()
	if w.Now() != now || w.Len() != len(wanted) || !slices.Equal(w.All(), wanted) {
		t.Errorf("at %d %d timers %v, wanted at %d %v", w.Now(), w.Len(), w.All(), now, wanted)
	}
	least := uint64(0)
	if len(wanted) > 0 {
		least = wanted[0].At
	}
	if next, is := w.Next(); next != least || is != (len(wanted) > 0) {
		t.Errorf("Next: %d, %v, wanted %d", next, is, least)
	}
}

// P19.1: a new one is without timers, at its tick.
func TestNew(t *testing.T) {
	for _, now := range []uint64{0, 1, 63, 64, 1 << 40, 1<<63 - 1, 1 << 63, greatest - 1, greatest} {
		w := wheel.New(now)
		has(t, w, now)
		advances(t, w, now)
		advances(t, w, greatest)
		has(t, w, greatest)
	}
}

// The example of the chapter.
func TestExample(t *testing.T) {
	w := wheel.New(0)
	set(t, w, 1, 5)
	advances(t, w, 4)
	advances(t, w, 5, wheel.Timer{ID: 1, At: 5})
	has(t, w, 5)
}

// P19.1: a timer goes at its tick, not ahead of it, whatever digits it and the tick at which it was set have.
func TestTicks(t *testing.T) {
	ticks := []uint64{0, 1, 2, 62, 63, 64, 65, 127, 128, 4095, 4096, 4097, 262143, 262144, 1<<36 - 1, 1 << 36, 1<<60 - 1, 1 << 60, 1<<60 + 1, 1<<63 - 1, 1 << 63, 1<<63 + 1, 15 << 60, greatest - 64, greatest - 1, greatest}
	for _, now := range ticks {
		for _, at := range ticks {
			w := wheel.New(now)
			if at <= now {
				stale(t, w, 9, at)
				has(t, w, now)
				continue
			}
			set(t, w, 9, at)
			has(t, w, now, wheel.Timer{ID: 9, At: at})
			advances(t, w, now)
			advances(t, w, at-1)
			has(t, w, at-1, wheel.Timer{ID: 9, At: at})
			advances(t, w, at, wheel.Timer{ID: 9, At: at})
			has(t, w, at)
			advances(t, w, at)
		}
	}
}

// P19.1: by rising ticks, of one tick by rising ids, in whatever order they were set.
func TestOrder(t *testing.T) {
	wanted := []wheel.Timer{{2, 5}, {7, 5}, {greatest, 5}, {0, 63}, {1, 64}, {9, 64}, {3, 65}, {8, 4096}, {4, 1 << 40}, {6, 1 << 40}, {5, greatest}}
	for turn := range wanted {
		w := wheel.New(4)
		for i := range wanted {
			timer := wanted[(i*7+turn)%len(wanted)]
			set(t, w, timer.ID, timer.At)
		}
		has(t, w, 4, wanted...)
		advances(t, w, 64, wanted[:6]...)
		has(t, w, 64, wanted[6:]...)
		advances(t, w, greatest, wanted[6:]...)
		has(t, w, greatest)
	}
}

// P19.1: Set puts a timer in place of the one that was there, earlier or later, in the same slot or in another one.
func TestSetInPlace(t *testing.T) {
	for _, first := range []uint64{11, 12, 63, 64, 70, 5000, 1 << 50, greatest} {
		for _, second := range []uint64{11, 12, 63, 64, 71, 5001, 1<<50 + 1, greatest} {
			w := wheel.New(10)
			set(t, w, 3, first)
			set(t, w, 3, second)
			has(t, w, 10, wheel.Timer{ID: 3, At: second})
			advances(t, w, second-1)
			advances(t, w, second, wheel.Timer{ID: 3, At: second})
			advances(t, w, greatest)
		}
	}
}

// P19.1: Set ErrStale, where the tick isn't above Now; then the id has the timer that it had.
func TestSetStale(t *testing.T) {
	w := wheel.New(100)
	set(t, w, 1, 200)
	for _, at := range []uint64{0, 1, 99, 100} {
		stale(t, w, 1, at)
		stale(t, w, 2, at)
	}
	has(t, w, 100, wheel.Timer{ID: 1, At: 200})
	if at, there := w.At(2); at != 0 || there {
		t.Errorf("At(2): %d, %v", at, there)
	}
	advances(t, w, 199)
	stale(t, w, 1, 199)
	advances(t, w, 200, wheel.Timer{ID: 1, At: 200})
	stale(t, w, 1, 200)
	set(t, w, 1, 201)
	advances(t, w, greatest, wheel.Timer{ID: 1, At: 201})
	stale(t, w, 1, greatest)
	has(t, w, greatest)
}

// P19.1: Cancel takes an id's timer away, and no other one; ErrNone, where there is none.
func TestCancel(t *testing.T) {
	w := wheel.New(0)
	for id := range api.ID(4) {
		set(t, w, id, 64)
	}
	set(t, w, 4, 1<<60)
	for _, id := range []api.ID{1, 4} {
		if code := w.Cancel(id); code != api.OK {
			t.Errorf("Cancel(%d): %v", id, code)
		}
		if at, there := w.At(id); at != 0 || there {
			t.Errorf("%d has none: At %d, %v", id, at, there)
		}
		if code := w.Cancel(id); code != api.ErrNone {
			t.Errorf("Cancel(%d) again: %v", id, code)
		}
	}
	if code := w.Cancel(77); code != api.ErrNone {
		t.Errorf("Cancel of an id that never had one: %v", code)
	}
	has(t, w, 0, wheel.Timer{ID: 0, At: 64}, wheel.Timer{ID: 2, At: 64}, wheel.Timer{ID: 3, At: 64})
	set(t, w, 1, 63)
	advances(t, w, 1<<61, wheel.Timer{ID: 1, At: 63}, wheel.Timer{ID: 0, At: 64}, wheel.Timer{ID: 2, At: 64}, wheel.Timer{ID: 3, At: 64})
	has(t, w, 1<<61)
}

// P19.1: a timer that came nearer, and so stands on another ring, is taken away there.
func TestCancelNearer(t *testing.T) {
	w := wheel.New(0)
	set(t, w, 1, 1<<30+70)
	set(t, w, 2, 1<<30+71)
	for _, now := range []uint64{1 << 29, 1 << 30, 1<<30 + 64, 1<<30 + 69} {
		advances(t, w, now)
		has(t, w, now, wheel.Timer{ID: 1, At: 1<<30 + 70}, wheel.Timer{ID: 2, At: 1<<30 + 71})
	}
	if code := w.Cancel(1); code != api.OK {
		t.Errorf("Cancel: %v", code)
	}
	has(t, w, 1<<30+69, wheel.Timer{ID: 2, At: 1<<30 + 71})
	advances(t, w, 1<<30+71, wheel.Timer{ID: 2, At: 1<<30 + 71})
}

// P19.1: Advance ErrOrder, where the tick is below Now: nothing goes, and it is as it was.
func TestAdvanceOrder(t *testing.T) {
	w := wheel.New(1000)
	set(t, w, 1, 1001)
	for _, now := range []uint64{0, 1, 936, 999} {
		if gone, code := w.Advance(now); len(gone) != 0 || code != api.ErrOrder {
			t.Errorf("Advance(%d): %v, %v", now, gone, code)
		}
	}
	has(t, w, 1000, wheel.Timer{ID: 1, At: 1001})
	advances(t, w, 1000)
	advances(t, w, greatest, wheel.Timer{ID: 1, At: 1001})
	if gone, code := w.Advance(greatest - 1); len(gone) != 0 || code != api.ErrOrder || w.Now() != greatest {
		t.Errorf("Advance behind the greatest: %v, %v, at %d", gone, code, w.Now())
	}
}

// P19.2: of nil ErrNil, none, 0, false.
func TestNil(t *testing.T) {
	var w *wheel.Wheel
	for _, n := range []uint64{0, 1, greatest} {
		if code := w.Set(api.ID(n), n); code != api.ErrNil {
			t.Errorf("Set: %v", code)
		}
		if code := w.Cancel(api.ID(n)); code != api.ErrNil {
			t.Errorf("Cancel: %v", code)
		}
		if gone, code := w.Advance(n); len(gone) != 0 || code != api.ErrNil {
			t.Errorf("Advance: %v, %v", gone, code)
		}
		if at, there := w.At(api.ID(n)); at != 0 || there {
			t.Errorf("At: %d, %v", at, there)
		}
	}
	has(t, w, 0)
}

// The rule of memory: lists that were answered are nobody else's.
func TestListsAreNew(t *testing.T) {
	w := wheel.New(0)
	for id := range api.ID(3) {
		set(t, w, id, 9)
		set(t, w, id+10, 9000)
	}
	all := w.All()
	gone, _ := w.Advance(9)
	kept := slices.Clone(gone)
	for i := range all {
		all[i] = wheel.Timer{ID: 99, At: 99}
	}
	left := []wheel.Timer{{10, 9000}, {11, 9000}, {12, 9000}}
	has(t, w, 9, left...)
	set(t, w, 0, 10)
	advances(t, w, 10, wheel.Timer{ID: 0, At: 10})
	if !slices.Equal(gone, kept) {
		t.Errorf("what was told became %v", gone)
	}
	clear(gone)
	advances(t, w, 9000, left...)
}

// Wheels are by themselves.
func TestTwoWheels(t *testing.T) {
	a, b := wheel.New(0), wheel.New(5)
	set(t, a, 1, 6)
	has(t, b, 5)
	set(t, b, 1, 7)
	advances(t, a, 9, wheel.Timer{ID: 1, At: 6})
	has(t, b, 5, wheel.Timer{ID: 1, At: 7})
}
