package wire_test

import (
	"encoding/binary"
	"math"
	"math/rand"
	"strings"
	"testing"

	"vagabond/api"
	"vagabond/seal"
	"vagabond/wire"
)

// pattern: a text of so many bytes, all kinds of them.
func pattern(n int) string {
	out := make([]byte, n)
	for i := range out {
		out[i] = byte(i*i*17 + i*5 + 9)
	}
	return string(out)
}

// numbers: those at the edges of bytes and of all numbers.
func numbers() []uint64 {
	return []uint64{0, 1, 2, 255, 256, 0x0102030405060708, 1<<63 - 1, 1 << 63, 1<<63 + 1, math.MaxUint64}
}

// stamps: those at the edges of bytes and of all stamps.
func stamps() []uint16 { return []uint16{0, 1, 255, 256, 0x0102, 32767, 32768, 65534, 65535} }

// datagramBytes: what a datagram is, by Go's library.
func datagramBytes(d wire.Datagram) string {
	head := binary.BigEndian.AppendUint64(nil, uint64(d.ID))
	return string(binary.BigEndian.AppendUint64(head, d.Nonce)) + d.Sealed
}

// partBytes: what a part is, by Go's library.
func partBytes(p wire.Part) string {
	out := binary.BigEndian.AppendUint16(nil, p.Stamp)
	out = binary.BigEndian.AppendUint16(out, p.Reply)
	out = binary.BigEndian.AppendUint64(out, p.Number)
	index := uint16(p.Index)
	if p.Last {
		index += 32768
	}
	return string(binary.BigEndian.AppendUint16(out, index)) + p.Text
}

// body: 14 bytes with that number of a part, and a text.
func body(index uint16, text string) string {
	return strings.Repeat("\x00", 12) + string(binary.BigEndian.AppendUint16(nil, index)) + text
}

// datagramGoes: a datagram is written as those bytes, and read as it was.
func datagramGoes(t *testing.T, d wire.Datagram) {
	t.Helper()
	wanted := datagramBytes(d)
	s, code := d.Bytes()
	if s != wanted || code != api.OK {
		t.Fatalf("Bytes of %d, %d, %d bytes: %x, %v, wanted %x", d.ID, d.Nonce, len(d.Sealed), s, code, wanted)
	}
	if got, code := wire.Parse(s); got != d || code != api.OK {
		t.Fatalf("Parse of %x: %v, %v", s, got, code)
	}
}

// partGoes: a part is written as those bytes, and read as it was.
func partGoes(t *testing.T, p wire.Part) {
	t.Helper()
	wanted := partBytes(p)
	s, code := p.Bytes()
	if s != wanted || code != api.OK {
		t.Fatalf("Bytes of %v: %x, %v, wanted %x", p, s, code, wanted)
	}
	if got, code := wire.Read(s); got != p || code != api.OK {
		t.Fatalf("Read of %x: %v, %v, wanted %v", s, got, code, p)
	}
}

// datagramRefused: a datagram isn't written, for that reason.
func datagramRefused(t *testing.T, d wire.Datagram, wanted api.Errno) {
	t.Helper()
	if s, code := d.Bytes(); s != "" || code != wanted {
		t.Errorf("Bytes of a sealed body of %d: %d bytes, %v, wanted %v", len(d.Sealed), len(s), code, wanted)
	}
}

// parseRefused: a text isn't a datagram, for that reason.
func parseRefused(t *testing.T, s string, wanted api.Errno) {
	t.Helper()
	if d, code := wire.Parse(s); d != (wire.Datagram{}) || code != wanted {
		t.Errorf("Parse of %d bytes: %v, %v, wanted %v", len(s), d, code, wanted)
	}
}

// partRefused: a part isn't written, for that reason.
func partRefused(t *testing.T, p wire.Part, wanted api.Errno) {
	t.Helper()
	if s, code := p.Bytes(); s != "" || code != wanted {
		t.Errorf("Bytes of part %d, %d bytes: %x, %v, wanted %v", p.Index, len(p.Text), s, code, wanted)
	}
}

// readRefused: a body isn't read, for that reason.
func readRefused(t *testing.T, s string, wanted api.Errno) {
	t.Helper()
	if p, code := wire.Read(s); p != (wire.Part{}) || code != wanted {
		t.Errorf("Read of %d bytes: %v, %v, wanted %v", len(s), p, code, wanted)
	}
}

// P9.1: the head's numbers, the highest byte first, and the sealed body behind them.
func TestDatagramNumbers(t *testing.T) {
	for _, id := range numbers() {
		for _, nonce := range numbers() {
			datagramGoes(t, wire.Datagram{ID: api.ID(id), Nonce: nonce, Sealed: pattern(18)})
		}
	}
}

// P9.1: a head is layer 7's.
func TestDatagramHead(t *testing.T) {
	s, code := wire.Datagram{ID: 258, Nonce: 1 << 63, Sealed: pattern(16)}.Bytes()
	if wanted := seal.Head(258, 1<<63) + pattern(16); s != wanted || code != api.OK {
		t.Errorf("Bytes: %x, %v, wanted %x", s, code, wanted)
	}
}

// P9.1: sealed bodies of 16 to 496 bytes, datagrams of 32 to 512; no others.
func TestDatagramSizes(t *testing.T) {
	for n := range 600 {
		d := wire.Datagram{ID: 7, Nonce: 9, Sealed: pattern(n)}
		switch {
		case n < 16:
			datagramRefused(t, d, api.ErrShort)
		case n > 496:
			datagramRefused(t, d, api.ErrLong)
		default:
			datagramGoes(t, d)
		}
		s := pattern(n)
		switch {
		case n < 32:
			parseRefused(t, s, api.ErrShort)
		case n > 512:
			parseRefused(t, s, api.ErrLong)
		default:
			if d, code := wire.Parse(s); code != api.OK || datagramBytes(d) != s {
				t.Errorf("Parse of %d bytes: %v, %v", n, d, code)
			}
		}
	}
	datagramRefused(t, wire.Datagram{}, api.ErrShort)
	datagramRefused(t, wire.Datagram{Sealed: pattern(100000)}, api.ErrLong)
	parseRefused(t, "", api.ErrShort)
	parseRefused(t, pattern(100000), api.ErrLong)
}

// P9.1: a part's text of Room bytes makes a datagram of 512, one more byte none.
func TestRoom(t *testing.T) {
	if wire.Room() != 466 {
		t.Fatalf("Room: %d", wire.Room())
	}
	box, _ := seal.New("key")
	b, code := wire.Part{Number: 1, Last: true, Text: pattern(466)}.Bytes()
	if code != api.OK {
		t.Fatalf("Bytes of a part of 466: %v", code)
	}
	s, code := wire.Datagram{ID: 1, Nonce: 2, Sealed: box.Seal(1, 2, b)}.Bytes()
	if len(s) != 512 || code != api.OK {
		t.Errorf("a part of 466 bytes: %d bytes, %v", len(s), code)
	}
	datagramRefused(t, wire.Datagram{ID: 1, Nonce: 2, Sealed: box.Seal(1, 2, b+"x")}, api.ErrLong)
}

// P9.2: the numbers of a part, the highest byte first.
func TestPartNumbers(t *testing.T) {
	for _, number := range numbers() {
		for i, stamp := range stamps() {
			reply := stamps()[len(stamps())-1-i]
			partGoes(t, wire.Part{Stamp: stamp, Reply: reply, Number: number, Index: 3, Text: "text"})
			partGoes(t, wire.Part{Stamp: reply, Reply: stamp, Number: number, Last: true})
		}
	}
}

// P9.2: the bytes of one part, one by one.
func TestPartLayout(t *testing.T) {
	p := wire.Part{Stamp: 0x0102, Reply: 0x0304, Number: 0x05060708090a0b0c, Index: 31, Last: true, Text: "\x00z"}
	wanted := "\x01\x02\x03\x04\x05\x06\x07\x08\x09\x0a\x0b\x0c\x80\x1f\x00z"
	if s, code := p.Bytes(); s != wanted || code != api.OK {
		t.Errorf("Bytes: %x, %v, wanted %x", s, code, wanted)
	}
	p.Last = false
	if s, _ := p.Bytes(); s != wanted[:12]+"\x00\x1f\x00z" {
		t.Errorf("Bytes of one that isn't Last: %x", s)
	}
}

// P9.2: parts 0 to 31, Last or not; no others.
func TestPartIndexes(t *testing.T) {
	for i := range 32 {
		for _, last := range []bool{false, true} {
			partGoes(t, wire.Part{Number: 5, Index: i, Last: last, Text: "t"})
		}
	}
	for _, i := range []int{math.MinInt, -32768, -32, -1, 32, 33, 32767, 32768, 32769, 65535, 65536, 65537, 1 << 32, math.MaxInt} {
		for _, last := range []bool{false, true} {
			partRefused(t, wire.Part{Index: i, Last: last, Text: "t"}, api.ErrRange)
		}
	}
}

// P9.2: texts of up to 466 bytes; the Index's error is told first.
func TestPartTexts(t *testing.T) {
	for _, n := range []int{0, 1, 2, 100, 465, 466} {
		partGoes(t, wire.Part{Number: 5, Text: pattern(n)})
		partGoes(t, wire.Part{Number: 5, Text: strings.Repeat("\x00", n), Last: true})
	}
	for _, n := range []int{467, 468, 480, 512, 100000} {
		partRefused(t, wire.Part{Text: pattern(n)}, api.ErrLong)
		partRefused(t, wire.Part{Index: 31, Last: true, Text: pattern(n)}, api.ErrLong)
		partRefused(t, wire.Part{Index: 32, Text: pattern(n)}, api.ErrRange)
		partRefused(t, wire.Part{Index: -1, Text: pattern(n)}, api.ErrRange)
	}
}

// P9.2: a body of fewer than 14 bytes is too short, whatever they are.
func TestReadShort(t *testing.T) {
	for n := range 14 {
		readRefused(t, strings.Repeat("\x00", n), api.ErrShort)
		readRefused(t, strings.Repeat("\xff", n), api.ErrShort)
	}
	if p, code := wire.Read(strings.Repeat("\x00", 14)); p != (wire.Part{}) || code != api.OK {
		t.Errorf("Read of 14 noughts: %v, %v", p, code)
	}
}

// P9.2: of all numbers that two bytes have, those of parts 0 to 31 are read, Last or not.
func TestReadIndexes(t *testing.T) {
	for n := range 65536 {
		s := body(uint16(n), "t")
		if index := n % 32768; index > 31 {
			readRefused(t, s, api.ErrRange)
		} else if p, code := wire.Read(s); code != api.OK || p != (wire.Part{Index: index, Last: n >= 32768, Text: "t"}) {
			t.Errorf("Read of part %d: %v, %v", n, p, code)
		}
	}
}

// P9.2: a body of more than 480 bytes is too long; its number's error is told first.
func TestReadLong(t *testing.T) {
	for _, n := range []int{467, 468, 500, 100000} {
		readRefused(t, body(0, pattern(n)), api.ErrLong)
		readRefused(t, body(32768+31, pattern(n)), api.ErrLong)
		readRefused(t, body(32, pattern(n)), api.ErrRange)
		readRefused(t, body(65535, pattern(n)), api.ErrRange)
	}
	if p, code := wire.Read(body(1, pattern(466))); code != api.OK || p != (wire.Part{Index: 1, Text: pattern(466)}) {
		t.Errorf("Read of 480 bytes: %v, %v", p, code)
	}
}

// P9.3: what is written is read as it was.
func TestWrittenIsRead(t *testing.T) {
	r := rand.New(rand.NewSource(9))
	for range 3000 {
		datagramGoes(t, wire.Datagram{ID: api.ID(r.Uint64()), Nonce: r.Uint64(), Sealed: random(r, 16+r.Intn(481))})
		partGoes(t, wire.Part{Stamp: uint16(r.Uint32()), Reply: uint16(r.Uint32()), Number: r.Uint64(), Index: r.Intn(32), Last: r.Intn(2) == 0, Text: random(r, r.Intn(467))})
	}
}

// P9.3: what is read would be written so.
func TestReadIsWritten(t *testing.T) {
	r := rand.New(rand.NewSource(93))
	for range 3000 {
		s := random(r, r.Intn(520))
		if d, code := wire.Parse(s); code == api.OK {
			if again, code := d.Bytes(); again != s || code != api.OK {
				t.Fatalf("%x was parsed, and written as %x, %v", s, again, code)
			}
		}
		b := body(uint16(r.Intn(40)+r.Intn(2)*32768), random(r, r.Intn(480)))
		b = random(r, 12) + b[12:]
		if p, code := wire.Read(b); code == api.OK {
			if again, code := p.Bytes(); again != b || code != api.OK {
				t.Fatalf("%x was read, and written as %x, %v", b, again, code)
			}
		}
	}
}

// random: a text of so many bytes, by chance.
func random(r *rand.Rand, n int) string {
	out := make([]byte, n)
	r.Read(out)
	return string(out)
}
