package aes_test

import (
	library "crypto/aes"
	"encoding/hex"
	"math/rand"
	"strings"
	"testing"

	"vagabond/aes"
	"vagabond/api"
)

// noughts is a key of 16 noughts.
const noughts = "\x00\x00\x00\x00\x00\x00\x00\x00\x00\x00\x00\x00\x00\x00\x00\x00"

// unhex: the bytes of base 16.
func unhex(t *testing.T, s string) string {
	t.Helper()
	out, err := hex.DecodeString(s)
	if err != nil {
		t.Fatal(err)
	}
	return string(out)
}

// made: the Key of 16 bytes.
func made(t *testing.T, key string) aes.Key {
	t.Helper()
	k, code := aes.New(key)
	if code != api.OK {
		t.Fatalf("New of %x: %v", key, code)
	}
	return k
}

// random: a block of any bytes.
func random(r *rand.Rand) api.Block {
	var b api.Block
	for i := range b {
		b[i] = byte(r.Intn(256))
	}
	return b
}

// product: two polynomials multiplied in full, then divided by the modulus.
func product(a, b int) int {
	whole := 0
	for i := range 8 {
		for j := range 8 {
			whole ^= (a >> i & 1) * (b >> j & 1) << (i + j)
		}
	}
	for i := 14; i >= 8; i-- {
		if whole>>i&1 == 1 {
			whole ^= 0x11b << (i - 8)
		}
	}
	return whole
}

// boxByte: a byte of the box, as the chapter tells it.
func boxByte(a int) byte {
	c := 0
	for b := range 256 {
		if product(a, b) == 1 {
			c = b
		}
	}
	out := 0x63
	for turn := range 5 {
		out ^= c<<turn&0xff | c>>(8-turn)
	}
	return byte(out)
}

// P5.1: all products.
func TestTimes(t *testing.T) {
	for a := range 256 {
		for b := range 256 {
			if got := aes.Times(byte(a), byte(b)); int(got) != product(a, b) {
				t.Errorf("Times(%02x, %02x): %02x, wanted %02x", a, b, got, product(a, b))
			}
		}
	}
	// The products that the standard names.
	for _, c := range [][3]byte{{0x57, 0x83, 0xc1}, {0x57, 0x13, 0xfe}, {0x57, 0x02, 0xae}, {0x57, 0x10, 0x07}, {0, 0xff, 0}, {0xff, 1, 0xff}} {
		if got := aes.Times(c[0], c[1]); got != c[2] {
			t.Errorf("Times(%02x, %02x): %02x, wanted %02x", c[0], c[1], got, c[2])
		}
	}
}

// P5.1: the box at each byte.
func TestBox(t *testing.T) {
	box := aes.Box()
	for a := range 256 {
		if wanted := boxByte(a); box[a] != wanted {
			t.Errorf("Box at %02x: %02x, wanted %02x", a, box[a], wanted)
		}
	}
	// Bytes that the standard's table has.
	for a, wanted := range map[byte]byte{0x00: 0x63, 0x01: 0x7c, 0x10: 0xca, 0x53: 0xed, 0x9a: 0xb8, 0xff: 0x16} {
		if box[a] != wanted {
			t.Errorf("Box at %02x: %02x, wanted %02x", a, box[a], wanted)
		}
	}
}

// P5.2: a key has 16 bytes.
func TestNewForm(t *testing.T) {
	for _, n := range []int{0, 1, 8, 15, 17, 24, 32, 1000} {
		if k, code := aes.New(strings.Repeat("k", n)); code != api.ErrForm || k != (aes.Key{}) {
			t.Errorf("New of %d bytes: %v", n, code)
		}
	}
	for _, key := range []string{noughts, strings.Repeat("\xff", 16), strings.Repeat("k", 16)} {
		if _, code := aes.New(key); code != api.OK {
			t.Errorf("New of %x: %v", key, code)
		}
	}
}

// P5.2: the round keys that the standard's example has, in order.
func TestKnownRounds(t *testing.T) {
	wanted := []string{
		"2b7e151628aed2a6abf7158809cf4f3c",
		"a0fafe1788542cb123a339392a6c7605",
		"f2c295f27a96b9435935807a7359f67f",
		"3d80477d4716fe3e1e237e446d7a883b",
		"ef44a541a8525b7fb671253bdb0bad00",
		"d4d1c6f87c839d87caf2b8bc11f915bc",
		"6d88a37a110b3efddbf98641ca0093fd",
		"4e54f70e5f5fc9f384a64fb24ea6dc4f",
		"ead27321b58dbad2312bf5607f8d292f",
		"ac7766f319fadc2128d12941575c006e",
		"d014f9a8c9ee2589e13f0cc8b6630ca6",
	}
	got := made(t, unhex(t, wanted[0])).Rounds()
	for i, w := range wanted {
		if hex.EncodeToString(got[i][:]) != w {
			t.Errorf("round key %d: %x, wanted %s", i, got[i], w)
		}
	}
}

// schedule: the round keys, word by word, as the standard tells them.
func schedule(key string) [11]api.Block {
	var words [44][4]byte
	constant := 1
	for i := range words {
		if i < 4 {
			copy(words[i][:], key[4*i:])
			continue
		}
		w := words[i-1]
		if i%4 == 0 {
			w = [4]byte{boxByte(int(w[1])) ^ byte(constant), boxByte(int(w[2])), boxByte(int(w[3])), boxByte(int(w[0]))}
			constant = product(constant, 2)
		}
		for j := range w {
			words[i][j] = w[j] ^ words[i-4][j]
		}
	}
	var out [11]api.Block
	for i, w := range words {
		copy(out[i/4][4*(i%4):], w[:])
	}
	return out
}

// P5.2: the round keys of other keys.
func TestRounds(t *testing.T) {
	r := rand.New(rand.NewSource(5))
	keys := []string{noughts, strings.Repeat("\xff", 16), "0123456789abcdef"}
	for range 20 {
		b := random(r)
		keys = append(keys, string(b[:]))
	}
	for _, key := range keys {
		if got, wanted := made(t, key).Rounds(), schedule(key); got != wanted {
			t.Errorf("Rounds of %x: %x, wanted %x", key, got, wanted)
		}
	}
}

// P5.2: the blocks that the standard's examples have.
func TestKnownBlocks(t *testing.T) {
	cases := []struct{ key, block, wanted string }{
		{"000102030405060708090a0b0c0d0e0f", "00112233445566778899aabbccddeeff", "69c4e0d86a7b0430d8cdb78070b4c55a"},
		{"2b7e151628aed2a6abf7158809cf4f3c", "3243f6a8885a308d313198a2e0370734", "3925841d02dc09fbdc118597196a0b32"},
		{"00000000000000000000000000000000", "00000000000000000000000000000000", "66e94bd4ef8a2c3b884cfa59ca342b2e"},
	}
	for _, c := range cases {
		var b api.Block
		copy(b[:], unhex(t, c.block))
		if got := made(t, unhex(t, c.key)).Encrypt(b); hex.EncodeToString(got[:]) != c.wanted {
			t.Errorf("Encrypt of %s by %s: %x, wanted %s", c.block, c.key, got, c.wanted)
		}
	}
}

// P5.2, P5.3: any blocks by any keys are what Go's library makes of them, and are decrypted to what they were.
func TestBlocksByLibrary(t *testing.T) {
	r := rand.New(rand.NewSource(6))
	for range 500 {
		key, b := random(r), random(r)
		cipher, err := library.NewCipher(key[:])
		if err != nil {
			t.Fatal(err)
		}
		var wanted, back api.Block
		cipher.Encrypt(wanted[:], b[:])
		got := made(t, string(key[:])).Encrypt(b)
		if got != wanted {
			t.Fatalf("Encrypt of %x by %x: %x, wanted %x", b, key, got, wanted)
		}
		if cipher.Decrypt(back[:], got[:]); back != b {
			t.Fatalf("%x by %x is decrypted to %x", b, key, back)
		}
	}
}

// P5.2: the zero Key is the key of 16 noughts.
func TestZeroKey(t *testing.T) {
	k := made(t, noughts)
	if got, wanted := (aes.Key{}).Rounds(), k.Rounds(); got != wanted {
		t.Errorf("Rounds of the zero Key: %x, wanted %x", got, wanted)
	}
	r := rand.New(rand.NewSource(7))
	for range 20 {
		b := random(r)
		if got, wanted := (aes.Key{}).Encrypt(b), k.Encrypt(b); got != wanted {
			t.Errorf("Encrypt of %x by the zero Key: %x, wanted %x", b, got, wanted)
		}
	}
}

// P5.3: blocks that differ, even by one bit, are encrypted unlike.
func TestUnlikeBlocks(t *testing.T) {
	k := made(t, "0123456789abcdef")
	blocks := []api.Block{{}}
	for i := range 128 {
		var b api.Block
		b[i/8] = 1 << (i % 8)
		blocks = append(blocks, b)
	}
	r := rand.New(rand.NewSource(8))
	for range 1000 {
		blocks = append(blocks, random(r))
	}
	from := map[api.Block]api.Block{}
	for _, b := range blocks {
		c := k.Encrypt(b)
		if other, there := from[c]; there && other != b {
			t.Errorf("%x and %x are encrypted alike", b, other)
		}
		from[c] = b
	}
}

// A key stays as it was, whatever is asked of it, and so does a block.
func TestKeyStays(t *testing.T) {
	k := made(t, "0123456789abcdef")
	b := api.Block{1, 2, 3}
	first := k.Encrypt(b)
	rounds := k.Rounds()
	rounds[0][0] ^= 1
	if k.Encrypt(b) != first || k != made(t, "0123456789abcdef") || b != (api.Block{1, 2, 3}) {
		t.Error("a key or a block changed")
	}
}
