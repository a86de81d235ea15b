package clock_test

import (
	"math"
	"math/rand"
	"testing"

	"vagabond/clock"
)

// told: a clock that was told those times.
func told(times ...uint64) clock.Clock {
	var c clock.Clock
	for _, t := range times {
		c = c.Told(t)
	}
	return c
}

// shows: a clock tells that.
func shows(t *testing.T, what any, c clock.Clock, count, smooth, wait uint64, jitter float64) {
	t.Helper()
	if c.Count() != count || c.Smooth() != smooth || c.Wait() != wait {
		t.Errorf("%v: Count %d, Smooth %d, Wait %d, wanted %d, %d, %d", what, c.Count(), c.Smooth(), c.Wait(), count, smooth, wait)
	}
	if got := c.Jitter(); math.Float64bits(got) != math.Float64bits(jitter) {
		t.Errorf("%v: Jitter %v, wanted %v", what, got, jitter)
	}
}

// P14.1: the zero one was told none.
func TestZeroClock(t *testing.T) {
	shows(t, "zero", clock.Clock{}, 0, 0, 1000, 0)
}

// P14.1: the first time, up to 60000.
func TestFirstTime(t *testing.T) {
	for _, c := range []struct {
		time, smooth, wait uint64
		jitter             float64
	}{
		{0, 0, 50, 0}, {1, 1, 50, 0.5}, {16, 16, 50, 0.5}, {17, 17, 51, 0.5}, {100, 100, 300, 0.5},
		{19999, 19999, 59997, 0.5}, {20000, 20000, 60000, 0.5}, {20001, 20001, 60000, 0.5},
		{59999, 59999, 60000, 0.5}, {60000, 60000, 60000, 0.5}, {60001, 60000, 60000, 0.5}, {65535, 60000, 60000, 0.5},
		{1 << 60, 60000, 60000, 0.5}, {1 << 61, 60000, 60000, 0.5}, {math.MaxUint64, 60000, 60000, 0.5},
	} {
		shows(t, c.time, told(c.time), 1, c.smooth, c.wait, c.jitter)
	}
}

// P14.1: further times, reckoned by hand.
func TestFurtherTimes(t *testing.T) {
	for _, c := range []struct {
		times        []uint64
		smooth, wait uint64
		jitter       float64
	}{
		// S 800, V 150.
		{[]uint64{100, 100}, 100, 250, 0.375},
		// V 113.
		{[]uint64{100, 100, 100}, 100, 213, 0.2825},
		// S 900, V 250.
		{[]uint64{100, 200}, 112, 362, 2.0 * 250 / 900},
		// S 900 less 112, and 49; V 250 less 62, and 63, which 49 is off 112.
		{[]uint64{100, 200, 49}, 104, 355, 2.0 * 251 / 837},
		// S 700, V 250: below as far as above.
		{[]uint64{100, 0}, 87, 337, 2.0 * 250 / 700},
		// S 0, V 0.
		{[]uint64{0, 0}, 0, 50, 0},
		// S 5, V 5; then S 5 less 0, and 7; V 5 less 1, and 7.
		{[]uint64{0, 5}, 0, 50, 2},
		{[]uint64{0, 5, 7}, 1, 50, 2.0 * 11 / 12},
		// Divisions rounded down: S 15 less 1, and 0; V 14 less 3, and 1.
		{[]uint64{0, 7, 8, 0}, 1, 50, 2.0 * 12 / 14},
		// A further time is cut as well: S 700 and 60000, V 150 and 59900.
		{[]uint64{100, 1 << 60}, 7587, 60000, 2.0 * 60050 / 60700},
		{[]uint64{100, 60000}, 7587, 60000, 2.0 * 60050 / 60700},
		{[]uint64{100, 60001}, 7587, 60000, 2.0 * 60050 / 60700},
		{[]uint64{100, 59999}, 7587, 60000, 2.0 * 60049 / 60699},
		{[]uint64{math.MaxUint64, math.MaxUint64, math.MaxUint64}, 60000, 60000, 2.0 * 67500 / 480000},
	} {
		shows(t, c.times, told(c.times...), uint64(len(c.times)), c.smooth, c.wait, c.jitter)
	}
}

// model is a clock told plainly, in numbers that may be below 0.
type model struct{ count, s, v int64 }

// tell: one time more.
func (m *model) tell(t uint64) {
	x := int64(min(t, 60000))
	m.count++
	if m.count == 1 {
		m.s, m.v = 8*x, 2*x
		return
	}
	d := x - m.s/8
	if d < 0 {
		d = -d
	}
	m.v -= m.v / 4
	m.v += d
	m.s -= m.s / 8
	m.s += x
}

// wait: how long to.
func (m *model) wait() uint64 {
	switch w := m.s/8 + m.v; {
	case w < 50:
		return 50
	case w > 60000:
		return 60000
	default:
		return uint64(w)
	}
}

// jitter: the deviation, by the time.
func (m *model) jitter() float64 {
	if m.s == 0 {
		return 0
	}
	return float64(2*m.v) / float64(m.s)
}

// P14.1 and P14.3: many times of all sizes; each clock stays as it was, and Wait within its ends.
func TestClockAsModel(t *testing.T) {
	r := rand.New(rand.NewSource(141))
	for range 300 {
		var c clock.Clock
		var m model
		most := r.Intn(65)
		for range 60 {
			time := r.Uint64() >> min(63, most+r.Intn(5))
			if most == 64 {
				time = 0
			}
			before := c
			count, smooth, wait, jitter := c.Count(), c.Smooth(), c.Wait(), c.Jitter()
			c = c.Told(time)
			m.tell(time)
			shows(t, time, c, uint64(m.count), uint64(m.s/8), m.wait(), m.jitter())
			shows(t, "as it was", before, count, smooth, wait, jitter)
			if c.Wait() < 50 || c.Wait() > 60000 {
				t.Fatalf("Wait %d", c.Wait())
			}
		}
		if t.Failed() {
			return
		}
	}
}

// P14.3: of a time that is ever the same Smooth is that.
func TestSmoothOfOneTime(t *testing.T) {
	for _, time := range []uint64{0, 1, 2, 7, 8, 9, 49, 50, 51, 100, 12345, 59999, 60000} {
		var c clock.Clock
		for i := range 200 {
			c = c.Told(time)
			if c.Smooth() != time || c.Count() != uint64(i+1) || c.Wait() < 50 || c.Wait() > 60000 {
				t.Fatalf("%d, told %d times: Smooth %d, Wait %d", time, i+1, c.Smooth(), c.Wait())
			}
		}
		// What is left of the deviation is less than can be divided.
		if wanted := min(max(time, 50), 60000); c.Wait() < wanted || c.Wait() > wanted+3 {
			t.Errorf("%d: Wait becomes %d", time, c.Wait())
		}
	}
}

// P14.2: ticks modulo 2^16.
func TestStamp(t *testing.T) {
	for _, c := range []struct {
		now    uint64
		wanted uint16
	}{
		{0, 0}, {1, 1}, {65535, 65535}, {65536, 0}, {65537, 1}, {1<<32 + 5, 5}, {math.MaxUint64, 65535}, {math.MaxUint64 - 65535, 0},
	} {
		if got := clock.Stamp(c.now); got != c.wanted {
			t.Errorf("Stamp(%d): %d, wanted %d", c.now, got, c.wanted)
		}
	}
}

// P14.2: how long ago a stamp was, modulo 2^16.
func TestSince(t *testing.T) {
	for _, c := range []struct {
		now    uint64
		stamp  uint16
		wanted uint64
	}{
		{0, 0, 0}, {9, 9, 0}, {9, 4, 5}, {5, 65535, 6}, {4, 5, 65535}, {0, 1, 65535}, {0, 65535, 1}, {65535, 0, 65535}, {65536, 0, 0},
		{65536, 65535, 1}, {1 << 40, 0, 0}, {1<<40 + 3, 1, 2}, {math.MaxUint64, 0, 65535}, {math.MaxUint64, 65535, 0},
	} {
		if got := clock.Since(c.now, c.stamp); got != c.wanted {
			t.Errorf("Since(%d, %d): %d, wanted %d", c.now, c.stamp, got, c.wanted)
		}
	}
	r := rand.New(rand.NewSource(142))
	for range 1000 {
		now, ago := r.Uint64(), uint64(r.Intn(65536))
		if got := clock.Since(now, clock.Stamp(now-ago)); got != ago {
			t.Fatalf("Since(%d, the stamp of %d before): %d", now, ago, got)
		}
	}
}

// P14.2: means, each sum rounded in the order of the numbers.
func TestMean(t *testing.T) {
	const wide = 1 << 53
	for _, c := range []struct {
		l      []uint64
		wanted float64
	}{
		{[]uint64{0}, 0}, {[]uint64{7}, 7}, {[]uint64{1, 2}, 1.5}, {[]uint64{0, 0, 0}, 0}, {[]uint64{1, 0, 0}, 1.0 / 3},
		{[]uint64{math.MaxUint64}, 1 << 64}, {[]uint64{math.MaxUint64, math.MaxUint64}, 1 << 64},
		{[]uint64{math.MaxUint64, 1, 1}, float64(1<<64) / 3},
		{[]uint64{wide, 1, 1}, float64(wide) / 3}, {[]uint64{1, 1, wide}, float64(wide+2) / 3},
		{[]uint64{wide + 1, 1}, wide / 2}, {[]uint64{wide + 3, 1}, (wide + 4) / 2},
	} {
		was := append([]uint64(nil), c.l...)
		if got := clock.Mean(c.l...); math.Float64bits(got) != math.Float64bits(c.wanted) {
			t.Errorf("Mean(%v): %v, wanted %v", c.l, got, c.wanted)
		}
		for i, n := range was {
			if c.l[i] != n {
				t.Errorf("the list %v became %v", was, c.l)
			}
		}
	}
	if got := clock.Mean(); !math.IsNaN(got) {
		t.Errorf("Mean of none: %v", got)
	}
	if got := clock.Mean([]uint64{}...); !math.IsNaN(got) {
		t.Errorf("Mean of an empty list: %v", got)
	}
}
