// Package real is layer 2: numbers with a point, at their edges. See shared/doc/02-real.md.
package real

import (
	"cmp"
	"math"
	"strconv"

	"vagabond/api"
	"vagabond/word"
)

// The kinds of numbers, in the order of all.
const (
	noNumber = iota
	minusInf
	below
	minusZero
	plusZero
	above
	plusInf
)

const (
	// size is how many bytes a number has.
	size = 8
	// top is the highest bit of a number's bits, its sign.
	top = 1 << 63
	// beyond is the first float above all that a uint64 holds.
	beyond = 1 << 64
)

// Kind: a number's.
func Kind(x float64) int {
	switch {
	case math.IsNaN(x):
		return noNumber
	case math.IsInf(x, -1):
		return minusInf
	case x < 0:
		return below
	case x == 0 && math.Signbit(x):
		return minusZero
	case x == 0:
		return plusZero
	case math.IsInf(x, 1):
		return plusInf
	}
	return above
}

// Cmp: which one is ahead.
func Cmp(a, b float64) int {
	kind, other := Kind(a), Kind(b)
	if kind != other {
		return cmp.Compare(kind, other)
	}
	// Within a kind Go's order is the one that is asked for; no numbers are all alike to it, too.
	return cmp.Compare(a, b)
}

// Same: are two the same?
func Same(a, b float64) bool { return Cmp(a, b) == 0 }

// Bytes: that stand as numbers do.
func Bytes(x float64) string {
	if math.IsNaN(x) {
		return word.Put(0, size)
	}
	bits := math.Float64bits(x)
	if bits&top != 0 {
		return word.Put(^bits, size)
	}
	return word.Put(bits|top, size)
}

// Of: the number of bytes.
func Of(s string) (float64, api.Errno) {
	if len(s) != size {
		return 0, api.ErrForm
	}
	n, err := word.Get(s)
	if err != api.OK {
		return 0, api.ErrForm
	}
	if n == 0 {
		return math.NaN(), api.OK
	}
	x := math.Float64frombits(turned(n))
	// The bytes of no number are noughts alone: other bits of one are nobody's.
	if math.IsNaN(x) {
		return 0, api.ErrForm
	}
	return x, api.OK
}

// turned: a number's bits, of those that stand as numbers do.
func turned(n uint64) uint64 {
	if n&top != 0 {
		return n &^ top
	}
	return ^n
}

// Text: in digits.
func Text(x float64) string {
	switch Kind(x) {
	case noNumber:
		return "nan"
	case minusInf:
		return "-inf"
	case minusZero:
		return "-0"
	case plusInf:
		return "inf"
	}
	return strconv.FormatFloat(x, 'g', -1, 64)
}

// Parse: the number of digits.
func Parse(s string) (float64, api.Errno) {
	x, err := strconv.ParseFloat(s, 64)
	// Go reads many texts as one number; only the one that is written is let through.
	if err != nil || Text(x) != s {
		return 0, api.ErrForm
	}
	return x, api.OK
}

// Least: the first.
func Least(l ...float64) float64 { return furthest(-1, l) }

// Most: the last.
func Most(l ...float64) float64 { return furthest(1, l) }

// furthest: the one that none is beyond, on that side.
func furthest(side int, l []float64) float64 {
	if len(l) == 0 {
		return math.NaN()
	}
	found := l[0]
	for i := range len(l) {
		if Cmp(l[i], found) == side {
			found = l[i]
		}
	}
	return found
}

// Hold: from one to another.
func Hold(x, low, high float64) float64 {
	if Cmp(x, low) < 0 {
		return low
	}
	if Cmp(x, high) > 0 {
		return high
	}
	return x
}

// Whole: what stands ahead of the point.
func Whole(x float64, most uint64) uint64 {
	if math.IsNaN(x) || x < 1 {
		return 0
	}
	// What Go makes of a float that a uint64 doesn't hold hangs on the machine.
	if x >= beyond {
		return most
	}
	return min(uint64(x), most)
}

// Ratio: a quotient that is a number.
func Ratio(a, b float64) float64 {
	quotient := a / b
	if math.IsNaN(quotient) {
		return 0
	}
	return quotient
}
