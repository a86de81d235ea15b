package wheel_test

import (
	"cmp"
	"math/bits"
	"math/rand"
	"slices"
	"testing"

	"vagabond/api"
	"vagabond/wheel"
)

// model is a wheel as the chapter tells it: a tick, and a tick for each id that has a timer.
type model struct {
	now    uint64
	timers map[api.ID]uint64
}

// all: the timers up to a tick, in order.
func (m *model) all(last uint64) []wheel.Timer {
	var l []wheel.Timer
	for id, at := range m.timers {
		if at <= last {
			l = append(l, wheel.Timer{ID: id, At: at})
		}
	}
	slices.SortFunc(l, func(a, b wheel.Timer) int {
		return cmp.Or(cmp.Compare(a.At, b.At), cmp.Compare(a.ID, b.ID))
	})
	return l
}

// set: what Set must answer.
func (m *model) set(id api.ID, at uint64) api.Errno {
	if at <= m.now {
		return api.ErrStale
	}
	m.timers[id] = at
	return api.OK
}

// cancel: what Cancel must answer.
func (m *model) cancel(id api.ID) api.Errno {
	if _, there := m.timers[id]; !there {
		return api.ErrNone
	}
	delete(m.timers, id)
	return api.OK
}

// advance: what Advance must answer.
func (m *model) advance(now uint64) ([]wheel.Timer, api.Errno) {
	if now < m.now {
		return nil, api.ErrOrder
	}
	m.now = now
	gone := m.all(now)
	for _, timer := range gone {
		delete(m.timers, timer.ID)
	}
	return gone, api.OK
}

// agrees: the wheel is as the model, in all that can be asked of it.
func (m *model) agrees(t *testing.T, w *wheel.Wheel, ids api.ID) {
	t.Helper()
	has(t, w, m.now, m.all(greatest)...)
	for id := range ids {
		wanted, is := m.timers[id]
		if at, there := w.At(id); at != wanted || there != is {
			t.Fatalf("At(%d): %d, %v, wanted %d, %v", id, at, there, wanted, is)
		}
	}
}

// far: a number below 2^high, of any number of bits.
func far(r *rand.Rand, high int) uint64 { return r.Uint64() >> (63 - r.Intn(high)) }

// later: a tick that is near another one, or far, mostly behind it; it stays at the greatest.
func later(r *rand.Rand, now uint64, high int) uint64 {
	if r.Intn(8) == 0 {
		return now - min(now, far(r, high))
	}
	sum, over := bits.Add64(now, far(r, high), 0)
	if over > 0 {
		return greatest
	}
	return sum
}

// P19.1, P19.2: whatever is asked of a wheel in whatever order, it is what the chapter says.
func TestWhateverIsAsked(t *testing.T) {
	r := rand.New(rand.NewSource(19))
	for round := range 150 {
		high, ids := 1+round%64, api.ID(1+r.Intn(20))
		begin := []uint64{0, 63, 4000, 1<<36 - 9, greatest >> 1, greatest - 5000}[round%6]
		w, m := wheel.New(begin), &model{begin, map[api.ID]uint64{}}
		for range 150 {
			id, at := api.ID(r.Intn(int(ids))), later(r, m.now, high)
			switch r.Intn(8) {
			case 0, 1, 2, 3:
				if got, wanted := w.Set(id, at), m.set(id, at); got != wanted {
					t.Fatalf("Set(%d, %d): %v, wanted %v", id, at, got, wanted)
				}
			case 4:
				if got, wanted := w.Cancel(id), m.cancel(id); got != wanted {
					t.Fatalf("Cancel(%d): %v, wanted %v", id, got, wanted)
				}
			default:
				got, code := w.Advance(at)
				wanted, wantedCode := m.advance(at)
				if !slices.Equal(got, wanted) || code != wantedCode {
					t.Fatalf("Advance(%d): %v, %v, wanted %v, %v", at, got, code, wanted, wantedCode)
				}
			}
			m.agrees(t, w, ids)
			if t.Failed() {
				return
			}
		}
	}
}

// P19.3: in however many steps a wheel is advanced, the same timers go, in the same order.
func TestSteps(t *testing.T) {
	r := rand.New(rand.NewSource(193))
	for round := range 300 {
		high := 1 + round%64
		begin := far(r, 64)
		var timers []wheel.Timer
		end := begin
		for i := range 30 {
			if at := later(r, begin, high); at > begin {
				timers = append(timers, wheel.Timer{ID: api.ID(i), At: at})
				end = max(end, at)
			}
		}
		once, stepped := wheel.New(begin), wheel.New(begin)
		for _, timer := range timers {
			set(t, once, timer.ID, timer.At)
			set(t, stepped, timer.ID, timer.At)
		}
		wanted, _ := once.Advance(end)
		var got []wheel.Timer
		for stepped.Now() < end {
			now := stepped.Now()
			gone, code := stepped.Advance(min(end, max(later(r, now, high), now+1)))
			if code != api.OK {
				t.Fatalf("Advance: %v", code)
			}
			got = append(got, gone...)
		}
		if !slices.Equal(got, wanted) || len(wanted) != len(timers) || stepped.Len() != 0 {
			t.Fatalf("from %d on: in steps %v, at once %v", begin, got, wanted)
		}
	}
}

// P19.3: tick by tick, over the edges of slots and of rings.
func TestTickByTick(t *testing.T) {
	for _, begin := range []uint64{0, 60, 4090, 1<<18 - 70, 1<<60 - 70, greatest - 300} {
		w := wheel.New(begin)
		for i := range uint64(100) {
			set(t, w, api.ID(1000-i), begin+1+i*3)
		}
		for step := range uint64(300) {
			at := begin + 1 + step
			if step%3 != 0 {
				advances(t, w, at)
				continue
			}
			advances(t, w, at, wheel.Timer{ID: api.ID(1000 - step/3), At: at})
		}
		has(t, w, begin+300)
	}
}
