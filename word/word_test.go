package word_test

import (
	"encoding/hex"
	"math"
	"math/big"
	"math/rand"
	"slices"
	"strings"
	"testing"
	"unsafe"

	"vagabond/api"
	"vagabond/word"
)

const most = math.MaxUint64

// samples: numbers at the edges of bytes and of all numbers.
func samples() []uint64 {
	l := []uint64{0, 1, 9, 10, 255, 256, 258, 65535, 65536, most - 1, most}
	for i := range 64 {
		l = append(l, 1<<i, 1<<i-1, 1<<i+1)
	}
	return l
}

// P1.1: as many bytes as are asked for, the highest first, modulo.
func TestPut(t *testing.T) {
	for _, n := range samples() {
		for size := -3; size <= 12; size++ {
			width := min(max(size, 0), 8)
			bound := new(big.Int).Lsh(big.NewInt(1), uint(8*width))
			left := new(big.Int).Mod(new(big.Int).SetUint64(n), bound)
			wanted := string(left.FillBytes(make([]byte, width)))
			if got := word.Put(n, size); got != wanted {
				t.Errorf("Put(%d, %d): %q, wanted %q", n, size, got, wanted)
			}
		}
	}
	for _, size := range []int{math.MinInt, math.MaxInt} {
		if got := word.Put(1, size); len(got) != min(max(size, 0), 8) {
			t.Errorf("Put(1, %d): %q", size, got)
		}
	}
	if got := word.Put(0x0102030405060708, 3); got != "\x06\x07\x08" {
		t.Errorf("Put cuts the wrong end: %q", got)
	}
}

// P1.1: the number of 1 to 8 bytes.
func TestGet(t *testing.T) {
	cases := []struct {
		s    string
		n    uint64
		code api.Errno
	}{
		{"", 0, api.ErrShort},
		{"\x00", 0, api.OK},
		{"\xff", 255, api.OK},
		{"\x01\x00", 256, api.OK},
		{"\x00\x01", 1, api.OK},
		{"\x01\x02\x03\x04\x05\x06\x07\x08", 0x0102030405060708, api.OK},
		{strings.Repeat("\xff", 8), most, api.OK},
		{strings.Repeat("\x00", 9), 0, api.ErrLong},
		{strings.Repeat("a", 1000), 0, api.ErrLong},
	}
	for _, c := range cases {
		if n, code := word.Get(c.s); n != c.n || code != c.code {
			t.Errorf("Get(%q): %d, %v, wanted %d, %v", c.s, n, code, c.n, c.code)
		}
	}
}

// P1.1: sums and differences that stay at the ends of numbers.
func TestAddSub(t *testing.T) {
	top := new(big.Int).SetUint64(most)
	for _, a := range samples() {
		for _, b := range samples() {
			x, y := new(big.Int).SetUint64(a), new(big.Int).SetUint64(b)
			sum := new(big.Int).Add(x, y)
			if sum.Cmp(top) > 0 {
				sum = top
			}
			less := new(big.Int).Sub(x, y)
			if less.Sign() < 0 {
				less = new(big.Int)
			}
			if got := word.Add(a, b); got != sum.Uint64() {
				t.Errorf("Add(%d, %d): %d, wanted %v", a, b, got, sum)
			}
			if got := word.Sub(a, b); got != less.Uint64() {
				t.Errorf("Sub(%d, %d): %d, wanted %v", a, b, got, less)
			}
		}
	}
}

// P1.2: the parts, and what is left, or the first size's error.
func TestCut(t *testing.T) {
	cases := []struct {
		s      string
		sizes  []int
		wanted []string
		code   api.Errno
	}{
		{"abcd", []int{1, 2}, []string{"a", "bc", "d"}, api.OK},
		{"abcd", nil, []string{"abcd"}, api.OK},
		{"", nil, []string{""}, api.OK},
		{"", []int{0, 0}, []string{"", "", ""}, api.OK},
		{"ab", []int{2}, []string{"ab", ""}, api.OK},
		{"ab", []int{0, 1, 0, 1, 0}, []string{"", "a", "", "b", "", ""}, api.OK},
		{"\xff\x00", []int{1}, []string{"\xff", "\x00"}, api.OK},
		{"ab", []int{3}, nil, api.ErrShort},
		{"ab", []int{2, 1}, nil, api.ErrShort},
		{"", []int{1}, nil, api.ErrShort},
		{"ab", []int{math.MaxInt}, nil, api.ErrShort},
		{"ab", []int{1, math.MaxInt}, nil, api.ErrShort},
		{"ab", []int{math.MinInt}, nil, api.ErrArg},
		{"ab", []int{1, -1, 9}, nil, api.ErrArg},
		{"ab", []int{9, -1}, nil, api.ErrShort},
		{"ab", []int{-1, 9}, nil, api.ErrArg},
	}
	for _, c := range cases {
		got, code := word.Cut(c.s, c.sizes...)
		if !slices.Equal(got, c.wanted) || code != c.code {
			t.Errorf("Cut(%q, %v): %q, %v, wanted %q, %v", c.s, c.sizes, got, code, c.wanted, c.code)
		}
	}
}

// The rule of memory: sizes stay as they were, and parts share nothing with the text.
func TestCutMemory(t *testing.T) {
	room := []int{1, 2, 77, 78}
	s := strings.Repeat("ab", 4)
	parts, code := word.Cut(s, room[:2]...)
	if code != api.OK || !slices.Equal(room, []int{1, 2, 77, 78}) {
		t.Errorf("Cut changed its sizes: %v, %v", room, code)
	}
	begin := uintptr(unsafe.Pointer(unsafe.StringData(s)))
	for _, p := range parts {
		at := uintptr(unsafe.Pointer(unsafe.StringData(p)))
		if at >= begin && at < begin+uintptr(len(s)) {
			t.Errorf("part %q shares the text's memory", p)
		}
	}
}

// P1.3: decimal digits.
func TestDigitsNumber(t *testing.T) {
	cases := []struct {
		s    string
		n    uint64
		code api.Errno
	}{
		{"0", 0, api.OK},
		{"9", 9, api.OK},
		{"10", 10, api.OK},
		{"18446744073709551615", most, api.OK},
		{"18446744073709551616", 0, api.ErrRange},
		{"18446744073709551625", 0, api.ErrRange},
		{"99999999999999999999", 0, api.ErrRange},
		{"184467440737095516150", 0, api.ErrRange},
		{strings.Repeat("9", 500), 0, api.ErrRange},
		{"1" + strings.Repeat("0", 64), 0, api.ErrRange},
		{strings.Repeat("9", 500) + "x", 0, api.ErrForm},
		{"0" + strings.Repeat("9", 500), 0, api.ErrForm},
		{"", 0, api.ErrForm},
		{"00", 0, api.ErrForm},
		{"01", 0, api.ErrForm},
		{"+1", 0, api.ErrForm},
		{"-1", 0, api.ErrForm},
		{"-0", 0, api.ErrForm},
		{" 1", 0, api.ErrForm},
		{"1 ", 0, api.ErrForm},
		{"1_0", 0, api.ErrForm},
		{"0x1", 0, api.ErrForm},
		{"1.0", 0, api.ErrForm},
		{"1/", 0, api.ErrForm},
		{"1:", 0, api.ErrForm},
		{"1\x00", 0, api.ErrForm},
		{"\u0661", 0, api.ErrForm},
	}
	for _, c := range cases {
		if n, code := word.Number(c.s); n != c.n || code != c.code {
			t.Errorf("Number(%q): %d, %v, wanted %d, %v", c.s, n, code, c.n, c.code)
		}
	}
	for _, n := range samples() {
		if got := word.Digits(n); got != new(big.Int).SetUint64(n).String() {
			t.Errorf("Digits(%d): %q", n, got)
		}
	}
}

// P1.3: base 16.
func TestHexUnhex(t *testing.T) {
	all := make([]byte, 256)
	for i := range all {
		all[i] = byte(i)
	}
	for _, s := range []string{"", "k", "\x00", "\xff", "a\n", string(all)} {
		if got := word.Hex(s); got != hex.EncodeToString([]byte(s)) {
			t.Errorf("Hex(%q): %q", s, got)
		}
		if back, code := word.Unhex(hex.EncodeToString([]byte(s))); back != s || code != api.OK {
			t.Errorf("Unhex of Hex of %q: %q, %v", s, back, code)
		}
	}
	if got := word.Hex("k"); got != "6b" {
		t.Errorf("Hex of k: %q", got)
	}
	for _, s := range []string{"6", "6b6", "6B", "6b6B", "g0", "0g", "6b0g", "0x6b", "6 ", " 6", "6b\n", "6b6b\n\n", "`0", "/0", ":0", "@0", "\xff\xff", "\x00\x00"} {
		if back, code := word.Unhex(s); back != "" || code != api.ErrForm {
			t.Errorf("Unhex(%q): %q, %v", s, back, code)
		}
	}
}

// P1.3: of all pairs of bytes just those that Hex writes are read.
func TestUnhexPairs(t *testing.T) {
	for a := range 256 {
		for b := range 256 {
			s := string([]byte{byte(a), byte(b)})
			back, code := word.Unhex(s)
			wanted, err := hex.DecodeString(s)
			if err != nil || strings.ToLower(s) != s {
				if back != "" || code != api.ErrForm {
					t.Errorf("Unhex(%q): %q, %v", s, back, code)
				}
			} else if back != string(wanted) || code != api.OK {
				t.Errorf("Unhex(%q): %q, %v", s, back, code)
			}
		}
	}
}

// P1.4: what is written is read as it was.
func TestWrittenIsRead(t *testing.T) {
	for _, n := range samples() {
		for size := 1; size <= 8; size++ {
			left := n
			if size < 8 {
				left = n % (1 << (8 * size))
			}
			if got, code := word.Get(word.Put(n, size)); got != left || code != api.OK {
				t.Errorf("Get of Put(%d, %d): %d, %v", n, size, got, code)
			}
		}
		if got, code := word.Number(word.Digits(n)); got != n || code != api.OK {
			t.Errorf("Number of Digits(%d): %d, %v", n, got, code)
		}
	}
}

// randomText: up to that many bytes, of an alphabet that often comes near to what is read.
func randomText(r *rand.Rand, longest int) string {
	alphabets := []string{"0123456789", "0123456789abcdef", "01", "0123456789abcdefABCDEFgx+-_. \x00\xff"}
	alphabet := alphabets[r.Intn(len(alphabets))]
	out := make([]byte, r.Intn(longest+1))
	for i := range out {
		out[i] = alphabet[r.Intn(len(alphabet))]
	}
	return string(out)
}

// P1.4 and P1: nothing else is read so, and nothing panics; beside an error stands a zero value.
func TestReadIsWritten(t *testing.T) {
	r := rand.New(rand.NewSource(1))
	for range 20000 {
		s := randomText(r, 24)
		if n, code := word.Number(s); code == api.OK && word.Digits(n) != s || code != api.OK && n != 0 {
			t.Fatalf("Number(%q): %d, %v", s, n, code)
		}
		if u, code := word.Unhex(s); code == api.OK && word.Hex(u) != s || code != api.OK && u != "" {
			t.Fatalf("Unhex(%q): %q, %v", s, u, code)
		}
		if n, code := word.Get(s); code == api.OK && word.Put(n, len(s)) != s || code != api.OK && n != 0 {
			t.Fatalf("Get(%q): %d, %v", s, n, code)
		}
		if u, code := word.Unhex(word.Hex(s)); u != s || code != api.OK {
			t.Fatalf("Unhex of Hex of %q: %q, %v", s, u, code)
		}
	}
}

// P1.4: the parts of a text, put together, are it.
func TestPartsAreTheText(t *testing.T) {
	r := rand.New(rand.NewSource(2))
	for range 20000 {
		s := randomText(r, 24)
		sizes := make([]int, r.Intn(5))
		for i := range sizes {
			sizes[i] = r.Intn(12) - 1
		}
		parts, code := word.Cut(s, sizes...)
		if code != api.OK {
			if len(parts) != 0 {
				t.Fatalf("Cut(%q, %v): %q beside %v", s, sizes, parts, code)
			}
			continue
		}
		if strings.Join(parts, "") != s || len(parts) != len(sizes)+1 {
			t.Fatalf("Cut(%q, %v): %q", s, sizes, parts)
		}
		for i, size := range sizes {
			if len(parts[i]) != size {
				t.Fatalf("Cut(%q, %v): part %d is %q", s, sizes, i, parts[i])
			}
		}
	}
}
