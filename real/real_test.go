package real_test

import (
	"encoding/binary"
	"math"
	"math/rand"
	"slices"
	"strconv"
	"strings"
	"testing"

	"vagabond/api"
	"vagabond/real"
)

var minusZero = math.Copysign(0, -1)

// row: numbers in the order of all, each one behind the one ahead of it.
func row() []float64 {
	return []float64{
		math.NaN(),
		math.Inf(-1),
		-math.MaxFloat64, -1e300, -18446744073709551616, -2.5, -2, -1.0000000000000002, -1, -0.5, -0x1p-1022, -math.SmallestNonzeroFloat64,
		minusZero,
		0,
		math.SmallestNonzeroFloat64, 0x1p-1022, 0.1, 0.5, 1, 1.0000000000000002, 2, 2.5, 18446744073709551616, 1e300, math.MaxFloat64,
		math.Inf(1),
	}
}

// nans: some that aren't the same in their bits.
func nans() []float64 {
	var l []float64
	for _, bits := range []uint64{0x7ff8000000000001, 0x7ff8000000000000, 0xfff8000000000000, 0x7ff0000000000001, 0xffffffffffffffff, 0x7fffffffffffffff} {
		l = append(l, math.Float64frombits(bits))
	}
	return l
}

// identical: the same bits, or both no number.
func identical(a, b float64) bool {
	return math.IsNaN(a) && math.IsNaN(b) || math.Float64bits(a) == math.Float64bits(b)
}

// randomNumber: of any bits, so that all exponents come up.
func randomNumber(r *rand.Rand) float64 { return math.Float64frombits(r.Uint64()) }

// P2.1: kinds.
func TestKind(t *testing.T) {
	for i, x := range row() {
		wanted := 2
		switch {
		case i < 2:
			wanted = i
		case i == len(row())-1:
			wanted = 6
		case identical(x, minusZero):
			wanted = 3
		case identical(x, 0):
			wanted = 4
		case x > 0:
			wanted = 5
		}
		if got := real.Kind(x); got != wanted {
			t.Errorf("Kind(%v): %d, wanted %d", x, got, wanted)
		}
	}
	for _, x := range nans() {
		if got := real.Kind(x); got != 0 {
			t.Errorf("Kind of no number %x: %d", math.Float64bits(x), got)
		}
	}
}

// P2.1 and P2.4: the order of all, and bytes that stand so.
func TestOrder(t *testing.T) {
	l := row()
	for i, a := range l {
		for j, b := range l {
			wanted := max(-1, min(1, i-j))
			if got := real.Cmp(a, b); got != wanted {
				t.Errorf("Cmp(%v, %v): %d, wanted %d", a, b, got, wanted)
			}
			if got := real.Same(a, b); got != (i == j) {
				t.Errorf("Same(%v, %v): %v", a, b, got)
			}
			if got := strings.Compare(real.Bytes(a), real.Bytes(b)); got != wanted {
				t.Errorf("bytes of %v and %v: %d, wanted %d", a, b, got, wanted)
			}
		}
	}
	for _, a := range nans() {
		for _, b := range nans() {
			if !real.Same(a, b) || real.Cmp(a, b) != 0 || real.Bytes(a) != real.Bytes(b) {
				t.Errorf("no numbers aren't alike: %x, %x", math.Float64bits(a), math.Float64bits(b))
			}
		}
	}
}

// P2.1: bytes as they are told.
func TestBytes(t *testing.T) {
	cases := []struct {
		x      float64
		wanted string
	}{
		{math.NaN(), "\x00\x00\x00\x00\x00\x00\x00\x00"},
		{math.Inf(-1), "\x00\x0f\xff\xff\xff\xff\xff\xff"},
		{-1, "\x40\x0f\xff\xff\xff\xff\xff\xff"},
		{minusZero, "\x7f\xff\xff\xff\xff\xff\xff\xff"},
		{0, "\x80\x00\x00\x00\x00\x00\x00\x00"},
		{math.SmallestNonzeroFloat64, "\x80\x00\x00\x00\x00\x00\x00\x01"},
		{1, "\xbf\xf0\x00\x00\x00\x00\x00\x00"},
		{math.Inf(1), "\xff\xf0\x00\x00\x00\x00\x00\x00"},
	}
	for _, c := range cases {
		if got := real.Bytes(c.x); got != c.wanted {
			t.Errorf("Bytes(%v): %x, wanted %x", c.x, got, c.wanted)
		}
		if x, code := real.Of(c.wanted); !identical(x, c.x) || code != api.OK {
			t.Errorf("Of(%x): %v, %v, wanted %v", c.wanted, x, code, c.x)
		}
	}
}

// P2.1: bytes that are no number's.
func TestOfWrong(t *testing.T) {
	wrong := []string{
		"", "\x80", "\x80\x00\x00\x00\x00\x00\x00", "\x80\x00\x00\x00\x00\x00\x00\x00\x00",
		strings.Repeat("\x00", 7), strings.Repeat("\x00", 9), strings.Repeat("\x00", 100),
		"\x00\x00\x00\x00\x00\x00\x00\x01",
		"\x00\x0f\xff\xff\xff\xff\xff\xfe",
		"\x00\x07\xff\xff\xff\xff\xff\xff",
		"\xff\xf0\x00\x00\x00\x00\x00\x01",
		"\xff\xf8\x00\x00\x00\x00\x00\x00",
		"\xff\xff\xff\xff\xff\xff\xff\xff",
	}
	for _, s := range wrong {
		if x, code := real.Of(s); !identical(x, 0) || code != api.ErrForm {
			t.Errorf("Of(%x): %v, %v", s, x, code)
		}
	}
}

// P2.2: texts, and that just they are parsed.
func TestText(t *testing.T) {
	cases := []struct {
		x      float64
		wanted string
	}{
		{math.NaN(), "nan"}, {math.Inf(-1), "-inf"}, {math.Inf(1), "inf"}, {minusZero, "-0"}, {0, "0"},
		{0.5, "0.5"}, {-0.5, "-0.5"}, {1, "1"}, {-3, "-3"}, {0.1, "0.1"}, {100000, "100000"}, {999999, "999999"},
		{1000000, "1e+06"}, {1234567, "1.234567e+06"}, {0.0001, "0.0001"}, {0.00001, "1e-05"},
		{math.MaxFloat64, "1.7976931348623157e+308"}, {math.SmallestNonzeroFloat64, "5e-324"},
		{1.0 / 3, "0.3333333333333333"},
	}
	for _, c := range cases {
		if got := real.Text(c.x); got != c.wanted {
			t.Errorf("Text(%v): %q, wanted %q", c.x, got, c.wanted)
		}
		if x, code := real.Parse(c.wanted); !identical(x, c.x) || code != api.OK {
			t.Errorf("Parse(%q): %v, %v", c.wanted, x, code)
		}
	}
	for _, x := range nans() {
		if got := real.Text(x); got != "nan" {
			t.Errorf("Text of no number: %q", got)
		}
	}
}

// P2.2: texts that no number has.
func TestParseWrong(t *testing.T) {
	wrong := []string{
		"", " ", ".", "-", "+", "e", "1e", "1e+", "0.50", "1.0", "1.", ".5", "-.5", "01", "00", "-00", "+0", "+1", "-0.0", "0e+00",
		"1e6", "1e06", "1e+6", "1E+06", "1e+006", "1000000", "10e+05", "0.00001", "1e-5", "100000.0", "1e+05",
		"NaN", "NAN", "-nan", "+nan", "Inf", "INF", "+inf", "-Inf", "infinity", "-infinity", "1e400", "-1e400", "1e-400",
		"0x1p-1", "0x1", "1_000", "1,5", "1 ", " 1", "1\n", "1\x00", "nan ", "inf.", "--1", "1f",
		"0.1000000000000000055511151231257827", "0.33333333333333331", "1.7976931348623159e+308", "4e-324",
		strings.Repeat("1", 5000), strings.Repeat("0", 5000), "1" + strings.Repeat("0", 308), "\xff",
	}
	for _, s := range wrong {
		if x, code := real.Parse(s); !identical(x, 0) || code != api.ErrForm {
			t.Errorf("Parse(%q): %v, %v", s, x, code)
		}
	}
}

// P2.3: ends of as many as one likes.
func TestEnds(t *testing.T) {
	if !math.IsNaN(real.Least()) || !math.IsNaN(real.Most()) {
		t.Errorf("ends of none: %v, %v", real.Least(), real.Most())
	}
	l := row()
	r := rand.New(rand.NewSource(1))
	for range 2000 {
		places := make([]int, 1+r.Intn(6))
		some := make([]float64, len(places), len(places)+4)
		for i := range places {
			places[i] = r.Intn(len(l))
			some[i] = l[places[i]]
		}
		if got := real.Least(some...); !identical(got, l[slices.Min(places)]) {
			t.Fatalf("Least(%v): %v", some, got)
		}
		if got := real.Most(some...); !identical(got, l[slices.Max(places)]) {
			t.Fatalf("Most(%v): %v", some, got)
		}
		for i, place := range places {
			if !identical(some[i], l[place]) {
				t.Fatalf("the list was changed: %v", some)
			}
		}
	}
	if got := real.Most(math.NaN(), minusZero); !identical(got, minusZero) {
		t.Errorf("Most of no number and -0: %v", got)
	}
	if got := real.Least(1, math.NaN(), math.Inf(-1)); !math.IsNaN(got) {
		t.Errorf("Least with no number: %v", got)
	}
}

// P2.3: held by the order of all, low first, whatever low and high are.
func TestHold(t *testing.T) {
	l := row()
	for i, x := range l {
		for j, low := range l {
			for k, high := range l {
				wanted := x
				if i < j {
					wanted = low
				} else if i > k {
					wanted = high
				}
				if got := real.Hold(x, low, high); !identical(got, wanted) {
					t.Fatalf("Hold(%v, %v, %v): %v, wanted %v", x, low, high, got, wanted)
				}
			}
		}
	}
}

// P2.3: whole numbers.
func TestWhole(t *testing.T) {
	const all = math.MaxUint64
	cases := []struct {
		x      float64
		most   uint64
		wanted uint64
	}{
		{math.NaN(), 7, 0}, {math.Inf(-1), 7, 0}, {-3, 7, 0}, {-0.5, 7, 0}, {minusZero, 7, 0}, {0, 7, 0},
		{0.9999999999999999, 7, 0}, {math.SmallestNonzeroFloat64, all, 0}, {1, 7, 1}, {1.9999999999999998, 7, 1},
		{2.9, 10, 2}, {7, 7, 7}, {7.5, 7, 7}, {8, 7, 7}, {6.999, 7, 6}, {1, 0, 0}, {0.5, 0, 0}, {math.Inf(1), 0, 0},
		{math.Inf(1), 7, 7}, {math.Inf(1), all, all}, {math.MaxFloat64, all, all},
		{9007199254740993, all, 9007199254740992},
		{9223372036854774784, all, 9223372036854774784}, {9223372036854775808, all, 9223372036854775808},
		{18446744073709549568, all, 18446744073709549568}, {18446744073709551616, all, all},
		{18446744073709551616, all - 1, all - 1}, {18446744073709555712, all, all}, {-18446744073709551616, all, 0},
		{18446744073709549568, 18446744073709549567, 18446744073709549567},
	}
	for _, c := range cases {
		if got := real.Whole(c.x, c.most); got != c.wanted {
			t.Errorf("Whole(%v, %d): %d, wanted %d", c.x, c.most, got, c.wanted)
		}
	}
}

// P2.3: quotients.
func TestRatio(t *testing.T) {
	inf, nan := math.Inf(1), math.NaN()
	cases := []struct{ a, b, wanted float64 }{
		{1, 2, 0.5}, {1, 3, 1.0 / 3}, {0, 0, 0}, {minusZero, 0, 0}, {0, minusZero, 0}, {inf, inf, 0}, {-inf, inf, 0},
		{nan, 1, 0}, {1, nan, 0}, {nan, nan, 0}, {1, 0, inf}, {-1, 0, -inf}, {1, minusZero, -inf}, {-1, minusZero, inf},
		{0, -1, minusZero}, {minusZero, 1, minusZero}, {minusZero, -1, 0}, {1, -inf, minusZero}, {inf, 2, inf}, {0, inf, 0},
		{math.MaxFloat64, 0.5, inf}, {math.SmallestNonzeroFloat64, 2, 0}, {-6, 3, -2},
	}
	for _, c := range cases {
		if got := real.Ratio(c.a, c.b); !identical(got, c.wanted) {
			t.Errorf("Ratio(%v, %v): %v, wanted %v", c.a, c.b, got, c.wanted)
		}
	}
}

// P2.4: what is written is read as it was; bytes stand as numbers do.
func TestWrittenIsRead(t *testing.T) {
	r := rand.New(rand.NewSource(2))
	l := append(row(), nans()...)
	for range 20000 {
		l = append(l, randomNumber(r))
	}
	for i, x := range l {
		if back, code := real.Of(real.Bytes(x)); !identical(back, x) || code != api.OK {
			t.Fatalf("Of of Bytes of %v: %v, %v", x, back, code)
		}
		if back, code := real.Parse(real.Text(x)); !identical(back, x) || code != api.OK {
			t.Fatalf("Parse of Text of %v: %v, %v", x, back, code)
		}
		if real.Kind(x) != 0 && real.Kind(x)%6 > 1 && real.Text(x) != strconv.FormatFloat(x, 'g', -1, 64) {
			t.Fatalf("Text(%v): %q", x, real.Text(x))
		}
		y := l[r.Intn(len(l))]
		if real.Cmp(x, y) != strings.Compare(real.Bytes(x), real.Bytes(y)) || real.Cmp(x, y) != -real.Cmp(y, x) {
			t.Fatalf("%d: Cmp(%v, %v): %d", i, x, y, real.Cmp(x, y))
		}
	}
}

// P2.1, P2.2 and P1: what is read would be written so, and nothing panics.
func TestReadIsWritten(t *testing.T) {
	r := rand.New(rand.NewSource(3))
	const alphabet = "0123456789.e+-naif"
	for range 50000 {
		text := make([]byte, r.Intn(8))
		for i := range text {
			text[i] = alphabet[r.Intn(len(alphabet))]
		}
		s := string(text)
		if x, code := real.Parse(s); code == api.OK && real.Text(x) != s || code != api.OK && !identical(x, 0) {
			t.Fatalf("Parse(%q): %v, %v", s, x, code)
		}
		s = string(binary.BigEndian.AppendUint64(nil, r.Uint64()>>r.Intn(60)^uint64(r.Intn(2))*0xfff0000000000000))
		if x, code := real.Of(s); code == api.OK && real.Bytes(x) != s || code != api.OK && (code != api.ErrForm || !identical(x, 0)) {
			t.Fatalf("Of(%x): %v, %v", s, x, code)
		}
	}
}
