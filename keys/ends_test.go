package keys

import (
	"math"
	"strings"
	"testing"

	"vagabond/api"
)

// The tests of this file make keys themselves, since no texts are long enough to get near the greatest number.

// near: keys of three bytes, whose End is that far from the greatest number.
func near(left uint64) Keys { return Keys{math.MaxUint64 - left - 3, "abc"} }

// P13.1 and P13.2: ErrRange, where End were above the greatest number, and the keys as they were.
func TestEndIsANumber(t *testing.T) {
	for _, c := range []struct {
		left uint64
		more int
		code api.Errno
	}{
		{0, 0, api.OK}, {0, 1, api.ErrRange}, {1, 1, api.OK}, {1, 2, api.ErrRange}, {5, 5, api.OK}, {5, 6, api.ErrRange},
		{252, 253, api.ErrRange}, {253, 253, api.OK},
	} {
		k := near(c.left)
		s := strings.Repeat("x", c.more)
		wanted := k
		if c.code == api.OK {
			wanted.held += s
		}
		if got, code := k.Type(s); got != wanted || code != c.code {
			t.Errorf("Type of %d, %d left: %v, %v", c.more, c.left, got, code)
		}
		if got, code := Do(k, s); got != wanted || code != c.code {
			t.Errorf("Do of %d, %d left: %v, %v", c.more, c.left, got, code)
		}
	}
}

// P13.1: ErrFull is told ahead of ErrRange, where both are so.
func TestFullComesFirst(t *testing.T) {
	k := near(3)
	if got, code := k.Type(strings.Repeat("x", 254)); got != k || code != api.ErrFull {
		t.Errorf("Type: %v, %v", got, code)
	}
}

// P13.2: what is forgotten by Do makes no room for the End.
func TestDoPastTheEnd(t *testing.T) {
	k := near(299)
	if got, code := Do(k, strings.Repeat("x", 300)); got != k || code != api.ErrRange {
		t.Errorf("one too many: %v, %v", got, code)
	}
	got, code := Do(k, strings.Repeat("x", 299))
	if wanted := (Keys{math.MaxUint64 - 256, strings.Repeat("x", 256)}); got != wanted || code != api.OK {
		t.Errorf("up to the end: %v, %v", got, code)
	}
}

// P13.1: numbers near the greatest one are forgotten, and asked for, as others.
func TestNumbersNearTheEnd(t *testing.T) {
	k := near(0)
	if from, end := k.Ends(); from != math.MaxUint64-3 || end != math.MaxUint64 {
		t.Errorf("Ends: %d, %d", from, end)
	}
	if got := k.Forget(math.MaxUint64 - 1); got != (Keys{math.MaxUint64 - 1, "c"}) {
		t.Errorf("Forget: %v", got)
	}
	if got := k.Forget(math.MaxUint64); got != (Keys{math.MaxUint64, ""}) {
		t.Errorf("Forget of all: %v", got)
	}
	if got, code := k.Since(math.MaxUint64); got != "" || code != api.OK {
		t.Errorf("Since the End: %q, %v", got, code)
	}
	if got, code := near(1).Since(math.MaxUint64); got != "" || code != api.ErrRange {
		t.Errorf("Since behind the End: %q, %v", got, code)
	}
	if !Same(k, k.Forget(math.MaxUint64)) || Same(k, near(1)) {
		t.Error("Same near the greatest number")
	}
}
