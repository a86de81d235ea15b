package ctr_test

import (
	libraryaes "crypto/aes"
	"crypto/cipher"
	"encoding/binary"
	"math"
	"strings"
	"testing"

	"vagabond/aes"
	"vagabond/api"
	"vagabond/ctr"
)

const (
	key     = "0123456789abcdef"
	longest = 65536
)

// pattern: a text of so many bytes, all kinds of them.
func pattern(n int) string {
	out := make([]byte, n)
	for i := range out {
		out[i] = byte(i*i*13 + i*23 + 7)
	}
	return string(out)
}

// nonces: numbers at the edges of bytes and of all numbers.
func nonces() []uint64 {
	return []uint64{0, 1, 255, 256, 1 << 32, 0x0102030405060708, 1 << 63, 1<<63 - 1, math.MaxUint64}
}

// made: the Key of 16 bytes.
func made(t *testing.T, key string) aes.Key {
	t.Helper()
	k, code := aes.New(key)
	if code != api.OK {
		t.Fatalf("New of %x: %v", key, code)
	}
	return k
}

// reference: a text turned by Go's library.
func reference(t *testing.T, key string, nonce uint64, s string) string {
	t.Helper()
	block, err := libraryaes.NewCipher([]byte(key))
	if err != nil {
		t.Fatal(err)
	}
	first := append(binary.BigEndian.AppendUint64(nil, nonce), make([]byte, 8)...)
	out := make([]byte, len(s))
	cipher.NewCTR(block, first).XORKeyStream(out, []byte(s))
	return string(out)
}

// P6.1: both numbers, in eight bytes each, the highest first.
func TestBlock(t *testing.T) {
	if got, wanted := ctr.Block(0x0102030405060708, 0x090a0b0c0d0e0f10), (api.Block{1, 2, 3, 4, 5, 6, 7, 8, 9, 10, 11, 12, 13, 14, 15, 16}); got != wanted {
		t.Errorf("Block: %x, wanted %x", got, wanted)
	}
	for _, nonce := range nonces() {
		for _, counter := range nonces() {
			got := ctr.Block(nonce, counter)
			if binary.BigEndian.Uint64(got[:8]) != nonce || binary.BigEndian.Uint64(got[8:]) != counter {
				t.Errorf("Block(%d, %d): %x", nonce, counter, got)
			}
		}
	}
}

// P6.1: the blocks of the counters 0, 1, .., encrypted, one behind the other.
func TestStreamIsBlocks(t *testing.T) {
	k := made(t, key)
	for _, nonce := range nonces() {
		wanted := ""
		for counter := range uint64(5) {
			b := k.Encrypt(ctr.Block(nonce, counter))
			wanted += string(b[:])
		}
		for n := range len(wanted) + 1 {
			if got, code := ctr.Stream(k, nonce, n); got != wanted[:n] || code != api.OK {
				t.Errorf("Stream of %d bytes by %d: %x, %v", n, nonce, got, code)
			}
		}
	}
}

// P6.1: streams are what Go's library makes, of the longest too.
func TestStreamByLibrary(t *testing.T) {
	k := made(t, key)
	for _, n := range []int{0, 1, 15, 16, 17, 255, 256, 257, 4096, 4097, longest - 1, longest} {
		wanted := reference(t, key, 9, strings.Repeat("\x00", n))
		if got, code := ctr.Stream(k, 9, n); got != wanted || code != api.OK {
			t.Errorf("Stream of %d bytes has %d that aren't the library's, %v", n, len(got), code)
		}
	}
}

// P6.1: numbers of bytes that there aren't.
func TestStreamRange(t *testing.T) {
	for _, n := range []int{math.MinInt, -65536, -1, longest + 1, 1 << 20, math.MaxInt} {
		if got, code := ctr.Stream(made(t, key), 9, n); got != "" || code != api.ErrRange {
			t.Errorf("Stream of %d bytes: %d bytes, %v", n, len(got), code)
		}
	}
}

// P6.1: texts turned by the stream, those too that are longer than Stream gives.
func TestTurn(t *testing.T) {
	for _, text := range []string{key, strings.Repeat("\x00", 16), strings.Repeat("\xff", 16)} {
		k := made(t, text)
		for _, nonce := range nonces() {
			for _, n := range []int{0, 1, 2, 15, 16, 17, 31, 32, 33, 466, 512} {
				s := pattern(n)
				if got, wanted := ctr.Turn(k, nonce, s), reference(t, text, nonce, s); got != wanted {
					t.Errorf("Turn of %d bytes by %d: %x, wanted %x", n, nonce, got, wanted)
				}
			}
		}
	}
	for _, n := range []int{longest, longest + 1, longest + 16, 3*longest + 5} {
		s := pattern(n)
		if ctr.Turn(made(t, key), 1, s) != reference(t, key, 1, s) {
			t.Errorf("Turn of %d bytes isn't the library's", n)
		}
	}
}

// P6.1: the zero Key is the key of 16 noughts.
func TestZeroKey(t *testing.T) {
	s := pattern(50)
	if got, wanted := ctr.Turn(aes.Key{}, 3, s), reference(t, strings.Repeat("\x00", 16), 3, s); got != wanted {
		t.Errorf("Turn by the zero Key: %x, wanted %x", got, wanted)
	}
}

// P6.2: turned twice it is as it was.
func TestTurnedTwice(t *testing.T) {
	k := made(t, key)
	for _, nonce := range nonces() {
		for n := range 70 {
			s := pattern(n)
			if got := ctr.Turn(k, nonce, ctr.Turn(k, nonce, s)); got != s {
				t.Errorf("%d bytes turned twice by %d: %x, wanted %x", n, nonce, got, s)
			}
		}
	}
	s := pattern(longest + 100)
	if ctr.Turn(k, 5, ctr.Turn(k, 5, s)) != s {
		t.Error("a long text turned twice isn't as it was")
	}
}

// P6.2: a longer stream begins with a shorter one.
func TestLongerBegins(t *testing.T) {
	k := made(t, key)
	whole, _ := ctr.Stream(k, 7, longest)
	for _, n := range []int{0, 1, 15, 16, 17, 100, 4096, longest - 1} {
		if got, _ := ctr.Stream(k, 7, n); len(got) != n || !strings.HasPrefix(whole, got) {
			t.Errorf("Stream of %d bytes doesn't begin the longest one", n)
		}
	}
}

// Streams of other keys and nonces are other ones.
func TestUnlikeStreams(t *testing.T) {
	seen := map[string]bool{}
	for _, text := range []string{key, "fedcba9876543210"} {
		for _, nonce := range nonces() {
			s, _ := ctr.Stream(made(t, text), nonce, 32)
			if seen[s] {
				t.Errorf("the stream by %s and %d came twice", text, nonce)
			}
			seen[s] = true
		}
	}
}
