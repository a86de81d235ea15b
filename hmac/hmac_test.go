package hmac_test

import (
	"crypto/hkdf"
	library "crypto/hmac"
	"crypto/sha256"
	"encoding/hex"
	"math"
	"slices"
	"strings"
	"testing"

	"vagabond/api"
	"vagabond/hmac"
)

const most = 255 * 32

// pattern: a text of so many bytes, all kinds of them.
func pattern(n int) string {
	out := make([]byte, n)
	for i := range out {
		out[i] = byte(i*i*11 + i*29 + 3)
	}
	return string(out)
}

// reference: the sum that Go's library has.
func reference(key, s string) string {
	m := library.New(sha256.New, []byte(key))
	m.Write([]byte(s))
	return string(m.Sum(nil))
}

// P4.1: the sums of RFC 4231's cases.
func TestKnownSums(t *testing.T) {
	cases := []struct{ key, s, sum string }{
		{strings.Repeat("\x0b", 20), "Hi There", "b0344c61d8db38535ca8afceaf0bf12b881dc200c9833da726e9376c2e32cff7"},
		{"Jefe", "what do ya want for nothing?", "5bdcc146bf60754e6a042426089575c75a003f089d2739839dec58b964ec3843"},
		{strings.Repeat("\xaa", 131), "Test Using Larger Than Block-Size Key - Hash Key First", "60e431591ee0b67f0d8a26aacbf5b77f8e0bc6213728c5140546040f0ee37f54"},
	}
	for _, c := range cases {
		if got := hex.EncodeToString([]byte(hmac.Sum(c.key, c.s))); got != c.sum {
			t.Errorf("Sum of %q: %s, wanted %s", c.s, got, c.sum)
		}
	}
}

// P4.1: keys and texts of all lengths around the edges of blocks.
func TestSumsByLength(t *testing.T) {
	for _, k := range []int{0, 1, 31, 32, 33, 63, 64, 65, 66, 127, 128, 129, 200} {
		for _, n := range []int{0, 1, 55, 56, 63, 64, 65, 119, 120, 128, 300} {
			key, s := pattern(k), pattern(n + 1)[1:]
			if got, wanted := hmac.Sum(key, s), reference(key, s); got != wanted {
				t.Errorf("Sum of %d bytes by %d: %x, wanted %x", n, k, got, wanted)
			}
		}
	}
}

// P4.1: the parts, one behind the other.
func TestParts(t *testing.T) {
	wanted := reference("key", "abcdef")
	for _, parts := range [][]string{{"abcdef"}, {"", "abcdef"}, {"ab", "", "cdef"}, strings.Split("abcdef", "")} {
		if got := hmac.Sum("key", parts...); got != wanted {
			t.Errorf("Sum of %q: %x, wanted %x", parts, got, wanted)
		}
	}
	if got, wanted := hmac.Sum("key"), reference("key", ""); got != wanted {
		t.Errorf("Sum of no parts: %x, wanted %x", got, wanted)
	}
}

// The list that is handed in stays as it was, its spare room too.
func TestPartsStay(t *testing.T) {
	room := []string{"a", "b", "c", "d"}
	hmac.Sum("key", room[:2]...)
	if !slices.Equal(room, []string{"a", "b", "c", "d"}) {
		t.Errorf("parts became %q", room)
	}
}

// P4.1: the same, byte by byte.
func TestSame(t *testing.T) {
	cases := []struct {
		a, b string
		same bool
	}{
		{"", "", true},
		{"", "\x00", false},
		{"a", "", false},
		{"ab", "ab", true},
		{"ab", "abc", false},
		{"abc", "ab", false},
		{"ab", "ba", false},
		{"ab", "ac", false},
		{"ab", "bb", false},
		{"ab\x00", "ab", false},
		{"\x01\x02", "\x02\x01", false},
		{"\xff\xff", "\x7f\x7f", false},
		{pattern(500), pattern(500), true},
		{pattern(500), pattern(501), false},
	}
	for _, c := range cases {
		if got := hmac.Same(c.a, c.b); got != c.same {
			t.Errorf("Same(%q, %q): %v", c.a, c.b, got)
		}
	}
	// A bit that differs, wherever it stands, is enough.
	for i := range 32 {
		for bit := range 8 {
			other := []byte(pattern(32))
			other[i] ^= 1 << bit
			if hmac.Same(pattern(32), string(other)) {
				t.Errorf("bit %d of byte %d isn't looked at", bit, i)
			}
		}
	}
}

// P4.2: the first n bytes of sums, each of the one before it, the label, and its number.
func TestDerive(t *testing.T) {
	whole, last := "", ""
	for i := 1; i <= 255; i++ {
		last = reference("key", last+"label"+string([]byte{byte(i)}))
		whole += last
	}
	for _, n := range []int{0, 1, 16, 31, 32, 33, 63, 64, 65, 96, 1000, most - 32, most - 1, most} {
		if got, code := hmac.Derive("key", "label", n); got != whole[:n] || code != api.OK {
			t.Errorf("Derive of %d bytes: %x, %v", n, got, code)
		}
	}
}

// P4.2: keys and labels of all kinds, held against Go's library.
func TestDeriveByLibrary(t *testing.T) {
	for _, key := range []string{"", "k", pattern(64), pattern(65)} {
		for _, label := range []string{"", "l", "\x00", pattern(200)} {
			wanted, err := hkdf.Expand(sha256.New, []byte(key), label, 100)
			if err != nil {
				t.Fatal(err)
			}
			if got, code := hmac.Derive(key, label, 100); got != string(wanted) || code != api.OK {
				t.Errorf("Derive(%q, %q, 100): %x, %v", key, label, got, code)
			}
		}
	}
}

// P4.2: numbers of bytes that there aren't.
func TestDeriveRange(t *testing.T) {
	for _, n := range []int{math.MinInt, -8160, -1, most + 1, most + 32, 1 << 20, math.MaxInt} {
		if got, code := hmac.Derive("key", "label", n); got != "" || code != api.ErrRange {
			t.Errorf("Derive of %d bytes: %x, %v", n, got, code)
		}
	}
}

// P4.3: a longer one begins with a shorter one.
func TestDeriveBegins(t *testing.T) {
	longest, _ := hmac.Derive("k", "l", 130)
	for n := range 130 {
		if got, _ := hmac.Derive("k", "l", n); len(got) != n || !strings.HasPrefix(longest, got) {
			t.Errorf("Derive of %d bytes: %x", n, got)
		}
	}
}
