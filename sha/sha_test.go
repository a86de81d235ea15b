package sha_test

import (
	"crypto/sha256"
	"encoding/binary"
	"encoding/hex"
	"math/big"
	"math/rand"
	"slices"
	"strings"
	"testing"

	"vagabond/api"
	"vagabond/sha"
)

// pattern: a text of so many bytes, all kinds of them.
func pattern(n int) string {
	out := make([]byte, n)
	for i := range out {
		out[i] = byte(i*i*7 + i*31 + 5)
	}
	return string(out)
}

// reference: the sum that Go's library has.
func reference(s string) string {
	sum := sha256.Sum256([]byte(s))
	return string(sum[:])
}

// check: both forms of a sum are the one that is wanted.
func check(t *testing.T, what, wanted string, parts ...string) {
	t.Helper()
	if got := sha.Text(parts...); got != wanted {
		t.Errorf("Text of %s: %x, wanted %x", what, got, wanted)
	}
	if got := sha.Sum(parts...); string(got[:]) != wanted {
		t.Errorf("Sum of %s: %x, wanted %x", what, got, wanted)
	}
}

// P3.1: sums that the standard's examples name.
func TestKnownSums(t *testing.T) {
	cases := []struct{ s, sum string }{
		{"", "e3b0c44298fc1c149afbf4c8996fb92427ae41e4649b934ca495991b7852b855"},
		{"abc", "ba7816bf8f01cfea414140de5dae2223b00361a396177a9cb410ff61f20015ad"},
		{"abcdbcdecdefdefgefghfghighijhijkijkljklmklmnlmnomnopnopq", "248d6a61d20638b8e5c026930c3e6039a33ce45964ff2167f6ecedd419db06c1"},
		{strings.Repeat("a", 1000000), "cdc76e5c9914fb9281a1c7e284d73e67f1809a48a497200e046d39ccc7112cd0"},
	}
	for _, c := range cases {
		wanted, err := hex.DecodeString(c.sum)
		if err != nil {
			t.Fatal(err)
		}
		check(t, c.s[:min(8, len(c.s))], string(wanted), c.s)
	}
	check(t, "no parts", reference(""))
}

// P3.1: sums of all lengths around the edges of blocks.
func TestSumsByLength(t *testing.T) {
	for n := range 300 {
		s := pattern(n)
		check(t, "a length", reference(s), s)
	}
}

// P3.2: how a text is cut makes no difference.
func TestParts(t *testing.T) {
	r := rand.New(rand.NewSource(3))
	for range 200 {
		s := pattern(r.Intn(200))
		var parts []string
		for left := s; left != ""; {
			n := r.Intn(len(left) + 1)
			parts = append(parts, left[:n])
			left = left[n:]
		}
		parts = append(parts, "")
		check(t, "parts", reference(s), parts...)
	}
	s := pattern(130)
	check(t, "single bytes", reference(s), strings.Split(s, "")...)
	check(t, "parts about a block", reference(s), s[:64], "", s[64:128], s[128:])
	if sha.Sum("a", "b") == sha.Sum("b", "a") {
		t.Error("the parts' order makes no difference")
	}
}

// The list that is handed in stays as it was, its spare room too.
func TestPartsStay(t *testing.T) {
	room := []string{"a", "b", "c", "d"}
	sha.Sum(room[:2]...)
	sha.Text(room[:2]...)
	if !slices.Equal(room, []string{"a", "b", "c", "d"}) {
		t.Errorf("parts became %q", room)
	}
}

// P3.1: it, a byte 128, noughts, how many bits it has.
func TestWhole(t *testing.T) {
	for n := range 300 {
		s := pattern(n)
		noughts := 0
		for (n+1+noughts+8)%64 != 0 {
			noughts++
		}
		wanted := s + "\x80" + strings.Repeat("\x00", noughts) + string(binary.BigEndian.AppendUint64(nil, uint64(8*n)))
		if got := sha.Whole(s); got != wanted {
			t.Errorf("Whole of %d bytes: %x, wanted %x", n, got, wanted)
		}
	}
	for n, size := range map[int]int{0: 64, 55: 64, 56: 128, 63: 128, 64: 128, 119: 128, 120: 192} {
		if got := len(sha.Whole(pattern(n))); got != size {
			t.Errorf("Whole of %d bytes has %d, wanted %d", n, got, size)
		}
	}
	// More than 2^16 bytes, so that more than two of the length's bytes count.
	if s := sha.Whole(pattern(1 << 21)); s[len(s)-8:] != "\x00\x00\x00\x00\x01\x00\x00\x00" {
		t.Errorf("the length of 2^21 bytes: %x", s[len(s)-8:])
	}
}

// firstPrimes: so many of them, by big numbers.
func firstPrimes(n int) []int64 {
	var l []int64
	for p := int64(2); len(l) < n; p++ {
		if big.NewInt(p).ProbablyPrime(0) {
			l = append(l, p)
		}
	}
	return l
}

// behindPoint: is bits what stands first behind the point of p's root of that degree?
func behindPoint(p int64, bits uint32, degree int64) bool {
	for ahead := int64(0); ahead < p; ahead++ {
		low := new(big.Int).Lsh(big.NewInt(ahead), 32)
		low.Add(low, big.NewInt(int64(bits)))
		high := new(big.Int).Add(low, big.NewInt(1))
		scaled := new(big.Int).Lsh(big.NewInt(p), uint(32*degree))
		if power(low, degree).Cmp(scaled) <= 0 && power(high, degree).Cmp(scaled) > 0 {
			return true
		}
	}
	return false
}

// power: a number times itself.
func power(x *big.Int, degree int64) *big.Int { return new(big.Int).Exp(x, big.NewInt(degree), nil) }

// P3.1: the constants are the roots' bits.
func TestConstants(t *testing.T) {
	start, keys := sha.Start(), sha.Keys()
	for i, p := range firstPrimes(64) {
		if i < len(start) && !behindPoint(p, start[i], 2) {
			t.Errorf("word %d at the beginning: %08x", i, start[i])
		}
		if !behindPoint(p, keys[i], 3) {
			t.Errorf("constant %d: %08x", i, keys[i])
		}
	}
	if start[0] != 0x6a09e667 || start[7] != 0x5be0cd19 || keys[0] != 0x428a2f98 || keys[63] != 0xc67178f2 {
		t.Errorf("constants: %08x, %08x", start, keys)
	}
}

// P3.1: a block that hasn't 64 bytes.
func TestStepForm(t *testing.T) {
	for _, n := range []int{0, 1, 32, 63, 65, 128} {
		if h, code := sha.Step(sha.Start(), pattern(n)); h != ([8]uint32{}) || code != api.ErrForm {
			t.Errorf("Step of %d bytes: %v, %v", n, h, code)
		}
	}
}

// P3.2: the sum is Step of all blocks of Whole, from Start on.
func TestSteps(t *testing.T) {
	for n := range 200 {
		s := pattern(n)
		h := sha.Start()
		for whole := sha.Whole(s); whole != ""; whole = whole[64:] {
			var code api.Errno
			if h, code = sha.Step(h, whole[:64]); code != api.OK {
				t.Fatalf("Step: %v", code)
			}
		}
		var got []byte
		for _, x := range h {
			got = binary.BigEndian.AppendUint32(got, x)
		}
		if string(got) != reference(s) {
			t.Errorf("steps of %d bytes: %x", n, got)
		}
	}
}

// Step hangs on its words: other ones at the beginning, at their ends too, lead elsewhere.
func TestStepFromElsewhere(t *testing.T) {
	h := [8]uint32{0, 1<<32 - 1, 1, 1 << 31, 5, 6, 7, 8}
	block := pattern(64)
	a, code := sha.Step(h, block)
	b, _ := sha.Step(sha.Start(), block)
	if code != api.OK || a == b || h != ([8]uint32{0, 1<<32 - 1, 1, 1 << 31, 5, 6, 7, 8}) {
		t.Errorf("Step: %08x, %08x, %v", a, b, code)
	}
}
