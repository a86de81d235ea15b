package seal_test

import (
	libraryaes "crypto/aes"
	"crypto/cipher"
	"crypto/hkdf"
	libraryhmac "crypto/hmac"
	"crypto/sha256"
	"encoding/binary"
	"math"
	"strings"
	"testing"

	"vagabond/api"
	"vagabond/seal"
)

const (
	mostSeq = 1<<63 - 1
	down    = 1 << 63
)

// pattern: a text of so many bytes, all kinds of them.
func pattern(n int) string {
	out := make([]byte, n)
	for i := range out {
		out[i] = byte(i*i*17 + i*5 + 9)
	}
	return string(out)
}

// numbers: ids and nonces at the edges of bytes and of all numbers.
func numbers() []uint64 {
	return []uint64{0, 1, 2, 255, 256, 0x0102030405060708, mostSeq, down, down + 1, math.MaxUint64}
}

// made: the Box of a session's key.
func made(t *testing.T, key string) seal.Box {
	t.Helper()
	b, code := seal.New(key)
	if code != api.OK {
		t.Fatalf("New of %q: %v", key, code)
	}
	return b
}

// expand: bytes of a key and a label, by Go's library.
func expand(t *testing.T, key, label string, n int) []byte {
	t.Helper()
	out, err := hkdf.Expand(sha256.New, []byte(key), label, n)
	if err != nil {
		t.Fatal(err)
	}
	return out
}

// reference: a body sealed by Go's library.
func reference(t *testing.T, key string, id, nonce uint64, body string) string {
	t.Helper()
	block, err := libraryaes.NewCipher(expand(t, key, "enc", 16))
	if err != nil {
		t.Fatal(err)
	}
	first := append(binary.BigEndian.AppendUint64(nil, nonce), make([]byte, 8)...)
	turned := make([]byte, len(body))
	cipher.NewCTR(block, first).XORKeyStream(turned, []byte(body))
	sum := libraryhmac.New(sha256.New, expand(t, key, "mac", 32))
	sum.Write(binary.BigEndian.AppendUint64(nil, id))
	sum.Write(binary.BigEndian.AppendUint64(nil, nonce))
	sum.Write(turned)
	return string(turned) + string(sum.Sum(nil)[:16])
}

// opens: a sealed body opens to that one.
func opens(t *testing.T, b seal.Box, id api.ID, nonce uint64, s, body string) {
	t.Helper()
	if got, code := b.Open(id, nonce, s); got != body || code != api.OK {
		t.Errorf("Open(%d, %d) of %x: %q, %v, wanted %q", id, nonce, s, got, code, body)
	}
}

// refuses: a text isn't opened, for that reason, and nothing of it is told.
func refuses(t *testing.T, b seal.Box, id api.ID, nonce uint64, s string, wanted api.Errno) {
	t.Helper()
	if got, code := b.Open(id, nonce, s); got != "" || code != wanted {
		t.Errorf("Open(%d, %d) of %x: %q, %v, wanted %v", id, nonce, s, got, code, wanted)
	}
}

// P7.1: a session's key has 1 to 64 bytes.
func TestNewArg(t *testing.T) {
	for _, n := range []int{0, 65, 66, 128, 1000} {
		if b, code := seal.New(strings.Repeat("k", n)); code != api.ErrArg || b != (seal.Box{}) {
			t.Errorf("New of %d bytes: %v", n, code)
		}
	}
	for n := 1; n <= 64; n++ {
		if _, code := seal.New(pattern(n)); code != api.OK {
			t.Errorf("New of %d bytes: %v", n, code)
		}
	}
}

// P7.1: a number, with the highest bit set in what goes to the client.
func TestNonce(t *testing.T) {
	cases := []struct {
		seq      uint64
		toClient bool
		nonce    uint64
		code     api.Errno
	}{
		{0, false, 0, api.OK},
		{0, true, down, api.OK},
		{5, false, 5, api.OK},
		{5, true, down + 5, api.OK},
		{mostSeq, false, mostSeq, api.OK},
		{mostSeq, true, math.MaxUint64, api.OK},
		{down, false, 0, api.ErrSpent},
		{down, true, 0, api.ErrSpent},
		{down + 1, true, 0, api.ErrSpent},
		{math.MaxUint64, false, 0, api.ErrSpent},
		{math.MaxUint64, true, 0, api.ErrSpent},
	}
	for _, c := range cases {
		if nonce, code := seal.Nonce(c.seq, c.toClient); nonce != c.nonce || code != c.code {
			t.Errorf("Nonce(%d, %v): %d, %v, wanted %d, %v", c.seq, c.toClient, nonce, code, c.nonce, c.code)
		}
	}
}

// P7.1: a nonce's number, and whether it goes to the client.
func TestSeq(t *testing.T) {
	cases := []struct {
		nonce, seq uint64
		toClient   bool
	}{
		{0, 0, false},
		{7, 7, false},
		{mostSeq, mostSeq, false},
		{down, 0, true},
		{down + 7, 7, true},
		{math.MaxUint64, mostSeq, true},
	}
	for _, c := range cases {
		if seq, toClient := seal.Seq(c.nonce); seq != c.seq || toClient != c.toClient {
			t.Errorf("Seq(%d): %d, %v, wanted %d, %v", c.nonce, seq, toClient, c.seq, c.toClient)
		}
	}
	for i := range 63 {
		for _, way := range []bool{false, true} {
			nonce, _ := seal.Nonce(1<<i, way)
			if seq, toClient := seal.Seq(nonce); seq != 1<<i || toClient != way {
				t.Errorf("Seq of Nonce(%d, %v): %d, %v", uint64(1)<<i, way, seq, toClient)
			}
		}
	}
}

// P7.1: both numbers, in eight bytes each, the highest first.
func TestHead(t *testing.T) {
	if got, wanted := seal.Head(0x0102030405060708, 0x090a0b0c0d0e0f10), "\x01\x02\x03\x04\x05\x06\x07\x08\x09\x0a\x0b\x0c\x0d\x0e\x0f\x10"; got != wanted {
		t.Errorf("Head: %x, wanted %x", got, wanted)
	}
	for _, id := range numbers() {
		for _, nonce := range numbers() {
			wanted := binary.BigEndian.AppendUint64(binary.BigEndian.AppendUint64(nil, id), nonce)
			if got := seal.Head(api.ID(id), nonce); got != string(wanted) {
				t.Errorf("Head(%d, %d): %x, wanted %x", id, nonce, got, wanted)
			}
		}
	}
}

// P7.1: 16 bytes more than the body has, and no size goes round.
func TestSize(t *testing.T) {
	cases := [][2]int{
		{0, 16}, {1, 17}, {2, 18}, {496, 512}, {1 << 31, 1<<31 + 16},
		{math.MaxInt - 17, math.MaxInt - 1}, {math.MaxInt - 16, math.MaxInt}, {math.MaxInt - 15, math.MaxInt}, {math.MaxInt, math.MaxInt},
		{-1, 16}, {math.MinInt, 16},
	}
	for _, c := range cases {
		if got := seal.Size(c[0]); got != c[1] {
			t.Errorf("Size(%d): %d, wanted %d", c[0], got, c[1])
		}
	}
	b := made(t, "key")
	for _, n := range []int{0, 1, 2, 15, 16, 17, 466, 496, 5000} {
		if got := b.Seal(1, 2, pattern(n)); len(got) != seal.Size(n) {
			t.Errorf("a sealed body of %d has %d bytes, Size says %d", n, len(got), seal.Size(n))
		}
	}
}

// P7.2: sealed bodies are what Go's library makes of them, by keys, ids, nonces and bodies at all edges.
func TestSealByLibrary(t *testing.T) {
	for _, n := range []int{1, 2, 32, 63, 64} {
		key := pattern(n)
		b := made(t, key)
		for _, number := range numbers() {
			for _, size := range []int{0, 1, 15, 16, 17, 40, 480} {
				id, nonce, body := number, number^3, pattern(size)
				wanted := reference(t, key, id, nonce, body)
				if got := b.Seal(api.ID(id), nonce, body); got != wanted {
					t.Errorf("Seal(%d, %d) of %d bytes: %x, wanted %x", id, nonce, size, got, wanted)
				}
				opens(t, b, api.ID(id), nonce, wanted, body)
			}
		}
	}
}

// P7.2: bodies of any bytes, long ones too.
func TestBodies(t *testing.T) {
	b := made(t, "key")
	for _, body := range []string{"", "\x00", "hi", strings.Repeat("\x00", 64), strings.Repeat("\xff", 65), pattern(70000)} {
		s := b.Seal(9, down+4, body)
		if s != reference(t, "key", 9, down+4, body) {
			t.Errorf("a sealed body of %d bytes isn't the library's", len(body))
		}
		opens(t, b, 9, down+4, s, body)
	}
}

// P7.2: fewer than 16 bytes are too short, whatever they are.
func TestOpenShort(t *testing.T) {
	b := made(t, "key")
	s := b.Seal(1, 2, "")
	for n := range 16 {
		refuses(t, b, 1, 2, s[:n], api.ErrShort)
		refuses(t, b, 1, 2, strings.Repeat("\x00", n), api.ErrShort)
		refuses(t, seal.Box{}, 1, 2, pattern(n), api.ErrShort)
	}
	opens(t, b, 1, 2, s, "")
}

// P7.2: a text of which one bit is another, or that is longer or shorter, is nobody's.
func TestOpenForged(t *testing.T) {
	b := made(t, "key")
	s := b.Seal(1, 2, "hello")
	for i := range len(s) {
		for bit := range 8 {
			other := []byte(s)
			other[i] ^= 1 << bit
			refuses(t, b, 1, 2, string(other), api.ErrTag)
		}
	}
	for n := 16; n < len(s); n++ {
		refuses(t, b, 1, 2, s[:n], api.ErrTag)
		refuses(t, b, 1, 2, s[len(s)-n:], api.ErrTag)
	}
	for _, other := range []string{s + "\x00", "\x00" + s, s + s, strings.Repeat("\x00", 16), pattern(16), pattern(500)} {
		refuses(t, b, 1, 2, other, api.ErrTag)
	}
	opens(t, b, 1, 2, s, "hello")
}

// P7.2: of the zero Box the key is one byte 0.
func TestZeroBox(t *testing.T) {
	zero, one := seal.Box{}, made(t, "\x00")
	for _, body := range []string{"", "hi", pattern(300)} {
		wanted := reference(t, "\x00", 3, down+4, body)
		for _, b := range []seal.Box{zero, one} {
			if got := b.Seal(3, down+4, body); got != wanted {
				t.Errorf("Seal of %d bytes by the key 0: %x, wanted %x", len(body), got, wanted)
			}
			opens(t, b, 3, down+4, wanted, body)
			refuses(t, b, 3, 4, wanted, api.ErrTag)
		}
	}
}

// P7.3: what is sealed is opened by the same id and nonce, and by no others.
func TestOnlyTheSame(t *testing.T) {
	b := made(t, "key")
	for _, id := range numbers() {
		for _, nonce := range numbers() {
			s := b.Seal(api.ID(id), nonce, "hi")
			opens(t, b, api.ID(id), nonce, s, "hi")
			for _, other := range numbers() {
				if other != id {
					refuses(t, b, api.ID(other), nonce, s, api.ErrTag)
				}
				if other != nonce {
					refuses(t, b, api.ID(id), other, s, api.ErrTag)
				}
			}
			if id != nonce {
				refuses(t, b, api.ID(nonce), id, s, api.ErrTag)
			}
		}
	}
}

// P7.3: each bit of an id and a nonce is needed, without a body too.
func TestEachBit(t *testing.T) {
	b := made(t, "key")
	for _, body := range []string{"", "hi"} {
		s := b.Seal(1, 2, body)
		for bit := range 64 {
			refuses(t, b, 1^1<<bit, 2, s, api.ErrTag)
			refuses(t, b, 1, 2^1<<bit, s, api.ErrTag)
		}
	}
}

// A sealed body needs its session's key: no other one opens it.
func TestOtherKeys(t *testing.T) {
	keys := []string{"\x00", "k", "key", "Key", "key2", strings.Repeat("k", 63), strings.Repeat("k", 64), pattern(64)}
	for i, key := range keys {
		s := made(t, key).Seal(1, 2, "hi")
		for j, other := range keys {
			if i == j {
				opens(t, made(t, other), 1, 2, s, "hi")
			} else {
				refuses(t, made(t, other), 1, 2, s, api.ErrTag)
			}
		}
	}
}

// A Box stays as it was, whatever is asked of it.
func TestBoxStays(t *testing.T) {
	for _, b := range []seal.Box{{}, made(t, "key")} {
		before := b
		first := b.Seal(1, 2, "hi")
		b.Seal(3, 4, "other")
		b.Open(1, 2, first)
		b.Open(1, 2, "none")
		if b != before || b.Seal(1, 2, "hi") != first {
			t.Error("a Box changed")
		}
	}
}
