package session_test

import (
	"fmt"
	"strings"
	"testing"
	"unsafe"

	"vagabond/api"
	"vagabond/clock"
	"vagabond/sender"
	"vagabond/session"
	"vagabond/wire"
)

const down = 1 << 63

// P17.2: what is refused, the first fault ahead of those behind it; the session is as it was then.
func TestTakeRefuses(t *testing.T) {
	s := met(t, setting())
	half := wire.Part{Reply: mute, Number: 9, Index: 1, Text: "half"}
	s = takes(t, "half", s, gram(t, 5, half), 3, session.Told{})
	s, _ = s.Write("hi")
	turned := []byte(gram(t, 6, half))
	turned[len(turned)-1] ^= 1
	other := half
	other.Text = "other"
	beyond := strings.Repeat("\x00", 12) + "\x00\x20"
	cases := []struct {
		what, text string
		wanted     api.Errno
	}{
		{"nothing", "", api.ErrShort},
		{"31 bytes", gram(t, 6, half)[:31], api.ErrShort},
		{"513 bytes", strings.Repeat("a", 513), api.ErrLong},
		{"another id, Down, forged", strings.Repeat("\xff", 40), api.ErrNone},
		{"another id, else as it should be", sealed(t, 6, key, 6, strings.Repeat("\x00", 14)), api.ErrNone},
		{"Down, stale, forged", "\x00\x00\x00\x00\x00\x00\x00\x05\x80" + strings.Repeat("\x00", 31), api.ErrDir},
		{"Down, else as it should be", sealed(t, own, key, down|6, strings.Repeat("\x00", 14)), api.ErrDir},
		{"forged, stale", "\x00\x00\x00\x00\x00\x00\x00\x05" + strings.Repeat("\x00", 32), api.ErrTag},
		{"a bit turned", string(turned), api.ErrTag},
		{"another key", sealed(t, own, "kex", 6, strings.Repeat("\x00", 14)), api.ErrTag},
		{"stale, too short", sealed(t, own, key, 5, ""), api.ErrStale},
		{"stale, the least number", sealed(t, own, key, 0, strings.Repeat("\x00", 14)), api.ErrStale},
		{"stale, doubled", gram(t, 5, half), api.ErrStale},
		{"a body of none", sealed(t, own, key, 6, ""), api.ErrShort},
		{"a body of 13", sealed(t, own, key, 6, strings.Repeat("\x00", 13)), api.ErrShort},
		{"a part beyond the last", sealed(t, own, key, 6, beyond), api.ErrRange},
		{"another part of its index", gram(t, 6, other), api.ErrForm},
		{"a Last one ahead of another", gram(t, 6, wire.Part{Number: 9, Last: true}), api.ErrForm},
	}
	before := look(s)
	for _, c := range cases {
		next, told, code := s.Take(api.Addr{Host: 9}, c.text, 99)
		if code != c.wanted || told != (session.Told{}) {
			t.Errorf("%s: %v, %v, wanted %v", c.what, told, code, c.wanted)
		}
		if look(next) != before || look(s) != before {
			t.Errorf("%s: refused, and changes the session", c.what)
		}
		s = next
	}
	if got := takes(t, "what was expected", s, gram(t, 6, half), 99, session.Told{}); got.Seen() != 99 {
		t.Errorf("Seen %d", got.Seen())
	}
}

// P17.2: of what is accepted: the number, the peer, the tick.
func TestTakeAccepts(t *testing.T) {
	s := started(t, setting())
	number := uint64(0)
	steps := []struct {
		from  api.Addr
		skip  uint64
		now   uint64
		moved bool
	}{
		{api.Addr{}, 0, 7, true}, // the zero address is one, too
		{api.Addr{}, 0, 7, false},
		{home, 3, 9, true},
		{home, 0, 4, false}, // a tick that is earlier
		{api.Addr{Host: 1, Port: 3}, 1000, 10, true},
		{api.Addr{Host: 2, Port: 3}, 0, greatest, true},
		{home, 1 << 40, 10, true},
	}
	for i, c := range steps {
		number += c.skip
		next, told, code := s.Take(c.from, whole(t, number, sender.Instr{}), c.now)
		if code != api.OK || told != (session.Told{Moved: c.moved}) {
			t.Fatalf("%d: %v, %v", i, told, code)
		}
		number++
		peer, known := next.Peer()
		if peer != c.from || !known || next.Seen() != c.now {
			t.Errorf("%d: the peer is %v, %v, seen %d", i, peer, known, next.Seen())
		}
		if _, expect := next.Next(); expect != number {
			t.Errorf("%d: Expect %d, wanted %d", i, expect, number)
		}
		s = next
	}
	s = takes(t, "the greatest number", s, whole(t, 1<<63-1, sender.Instr{}), 1, session.Told{})
	if _, expect := s.Next(); expect != 1<<63 {
		t.Errorf("behind the greatest number: Expect %d", expect)
	}
	if _, _, code := s.Take(home, whole(t, 1<<63-1, sender.Instr{}), 1); code != api.ErrStale {
		t.Errorf("behind the greatest number: %v", code)
	}
}

// stamped: the peer's datagram with stamps, of an instruction that changes nothing.
func stamped(t *testing.T, number uint64, stamp, reply uint16) string {
	t.Helper()
	return gram(t, number, wire.Part{Stamp: stamp, Reply: reply, Number: number + 1, Last: true, Text: sender.Instr{}.Text()})
}

// Its stamp is the last that came: what is sent replies with it, as old as it is, modulo 2^16.
func TestStampIsReplied(t *testing.T) {
	cases := []struct {
		stamp     uint16
		came, now uint64
		wanted    uint16
	}{
		{777, 600, 630, 807},
		{777, 600, 600, 777},
		{65530, 600, 610, 4},
		{65535, 600, 600, 65535},
		{0, 600, 600 + 65535, 65535},
		{5, 600, 600 + 1<<40 + 1, 6},
		{5, 600, greatest, uint16(5 + (1<<16 - 1) - 600)},
		{7, 1 << 60, 700, 7 + 700},
	}
	for _, c := range cases {
		s := takes(t, "first", started(t, setting()), stamped(t, 0, 1, mute), 2, session.Told{Moved: true})
		s = takes(t, "last", s, stamped(t, 1, c.stamp, mute), c.came, session.Told{})
		sends(t, fmt.Sprint(c), s, c.now, 128, out{number: 1, stamp: uint16(c.now), reply: c.wanted, instr: sender.Instr{Diff: nothing}})
	}
}

// A Reply that isn't 65535 is told to the clock, as the ticks since then.
func TestReplyIsToldToTheClock(t *testing.T) {
	s := started(t, setting())
	wanted := clock.Clock{}
	steps := []struct {
		reply uint16
		now   uint64
		since uint64
	}{
		{100, 300, 200},
		{mute, 301, 0},
		{0, 65536 + 9, 9},
		{65534, 65536 + 9, 11},
		{65534, 65535, 1},
		{9, 8, 65535},
	}
	for i, c := range steps {
		s = takes(t, fmt.Sprint(c), s, stamped(t, uint64(i), 0, c.reply), c.now, session.Told{Moved: i == 0})
		if c.reply != mute {
			wanted = wanted.Told(c.since)
		}
		if s.Clock() != wanted {
			t.Errorf("%v: the clock is %v, wanted %v", c, s.Clock(), wanted)
		}
	}
	part := wire.Part{Reply: 9, Number: 99, Text: "not whole"}
	s = takes(t, "not whole", s, gram(t, 50, part), 10, session.Told{})
	if s.Clock() != wanted.Told(1) {
		t.Error("of a part that isn't whole nothing was told to the clock")
	}
	part = wire.Part{Reply: 9, Number: 98, Text: "stale"}
	s = takes(t, "stale", s, gram(t, 51, part), 10, session.Told{})
	if s.Clock() != wanted.Told(1).Told(1) {
		t.Error("of a part that the maker doesn't take nothing was told to the clock")
	}
}

// P17.2: the maker is behind the part; where it isn't whole, or had an error, nothing more.
func TestPartsMakeAnInstruction(t *testing.T) {
	text := sender.Instr{New: 1, Diff: "typed"}.Text()
	part := func(number uint64, index int) wire.Part {
		pieces := []string{text[:10], text[10:30], text[30:]}
		return wire.Part{Reply: mute, Number: number, Index: index, Last: index == 2, Text: pieces[index]}
	}
	fresh := session.Told{Keys: "typed", Fresh: true}
	s := met(t, setting())
	s = takes(t, "2 of 7", s, gram(t, 1, part(7, 2)), 1, session.Told{})
	s = takes(t, "2 of 7 again", s, gram(t, 2, part(7, 2)), 1, session.Told{})
	s = takes(t, "0 of 7", s, gram(t, 3, part(7, 0)), 1, session.Told{})
	s = takes(t, "1 of 6, which is too late", s, gram(t, 4, part(6, 1)), 5, session.Told{})
	if _, expect := s.Next(); expect != 5 || s.Seen() != 5 {
		t.Errorf("too late, but accepted: Expect %d, Seen %d", expect, s.Seen())
	}
	s8 := takes(t, "1 of 8", s, gram(t, 5, part(8, 1)), 1, session.Told{})
	s8 = takes(t, "1 of 7, which is too late", s8, gram(t, 6, part(7, 1)), 1, session.Told{})
	s8 = takes(t, "0 of 8", s8, gram(t, 7, part(8, 0)), 1, session.Told{})
	takes(t, "2 of 8", s8, gram(t, 8, part(8, 2)), 1, fresh)
	s = takes(t, "1 of 7", s, gram(t, 5, part(7, 1)), 1, fresh)
	s = takes(t, "1 of 7 again", s, gram(t, 6, part(7, 1)), 1, session.Told{})
	if _, end := s.Keys().Ends(); end != 5 {
		t.Errorf("keys up to %d", end)
	}
}

// P17.2: where layer 15's Parse has an error nothing more.
func TestWhatIsNoInstruction(t *testing.T) {
	s := met(t, setting())
	s, _ = s.Write("hi")
	s, _, _ = s.Send(1)
	for i, text := range []string{"", strings.Repeat("\xff", 31)} {
		p := wire.Part{Reply: mute, Number: uint64(i) + 2, Last: true, Text: text}
		s = takes(t, "too short", s, gram(t, uint64(i)+1, p), 9, session.Told{})
	}
	if closing, done, _ := s.State(); closing || done || s.Keys() != met(t, setting()).Keys() || s.Seen() != 9 {
		t.Errorf("too short: %s", shows(s))
	}
}

// P17.2: Acked of its Ack, if it has that state, whatever the receiver says of the rest.
func TestTakeAcks(t *testing.T) {
	cases := []struct {
		what   string
		instr  sender.Instr
		told   session.Told
		wanted uint64
	}{
		{"fresh", sender.Instr{New: 1, Ack: 1, Diff: "a"}, session.Told{Keys: "a", Fresh: true}, 1},
		{"there already", sender.Instr{New: 0, Ack: 2}, session.Told{}, 2},
		{"without a base", sender.Instr{Old: 7, New: 8, Ack: 1, Diff: "a"}, session.Told{}, 1},
		{"of what wasn't sent", sender.Instr{New: 1, Ack: 3, Diff: "a"}, session.Told{Keys: "a", Fresh: true}, 0},
		{"of none", sender.Instr{New: 1, Diff: "a"}, session.Told{Keys: "a", Fresh: true}, 0},
		{"with Bye", sender.Instr{New: bye, Ack: 1}, session.Told{Bye: true}, 1},
		{"Bye", sender.Instr{New: 3, Ack: bye}, session.Told{Bye: true}, 0},
	}
	s := met(t, setting())
	for i, text := range []string{"a", "b"} {
		s, _ = s.Write(text)
		s, _, _ = s.Send(uint64(i))
	}
	for _, c := range cases {
		got := takes(t, c.what, s, whole(t, 1, c.instr), 2, c.told)
		got, _ = got.Write("c")
		_, datagrams, _ := got.Send(3)
		if i := outOf(t, datagrams, 128).instr; i.Old != c.wanted || i.Throw != c.wanted || i.New != 3 {
			t.Errorf("%s: then it sends %v, from %d wanted", c.what, i, c.wanted)
		}
	}
}

// P17.2: what was typed comes in: Fresh and its Keys, of the last one alone.
func TestTakeKeys(t *testing.T) {
	steps := []struct {
		what   string
		instr  sender.Instr
		wanted session.Told
		held   string
	}{
		{"the first", sender.Instr{New: 1, Diff: "ls"}, session.Told{Keys: "ls", Fresh: true}, "ls"},
		{"from the first state again", sender.Instr{New: 2, Diff: "ls -l"}, session.Told{Keys: " -l", Fresh: true}, "ls -l"},
		{"one that is there", sender.Instr{New: 2, Diff: "x"}, session.Told{}, "ls -l"},
		{"a later one", sender.Instr{Old: 2, New: 9, Diff: "\n"}, session.Told{Keys: "\n", Fresh: true}, "ls -l\n"},
		{"one between, which isn't the last", sender.Instr{Old: 2, New: 5, Diff: "yyy"}, session.Told{}, "ls -l\n"},
		{"without a base", sender.Instr{Old: 8, New: 10, Diff: "x"}, session.Told{}, "ls -l\n"},
		{"back from its base", sender.Instr{Old: 9, New: 4, Diff: "x"}, session.Told{}, "ls -l\n"},
		{"nothing new in it", sender.Instr{Old: 9, New: 10}, session.Told{Fresh: true}, "ls -l\n"},
		{"from the one between: unlike keys", sender.Instr{Old: 5, New: 11, Diff: "z"}, session.Told{Keys: "yyz", Fresh: true}, "ls -lyyyz"},
		{"fewer keys than there were", sender.Instr{Old: 1, New: 12, Throw: 12}, session.Told{Fresh: true}, "ls"},
		{"all others are thrown", sender.Instr{Old: 10, New: 13, Diff: "x"}, session.Told{}, "ls"},
	}
	s := met(t, setting())
	for i, c := range steps {
		s = takes(t, c.what, s, whole(t, uint64(i)+1, c.instr), 1, c.wanted)
		if held, _ := s.Keys().Since(0); held != c.held {
			t.Errorf("%s: keys %q, wanted %q", c.what, held, c.held)
		}
	}
}

// P17.2: of a great many keys the session has the last 256, and tells those that are new.
func TestTakeManyKeys(t *testing.T) {
	s := met(t, session.Setting{Width: 1, Height: 1, Room: 128, Most: 9})
	typed := strings.Repeat("0123456789", 25)
	for i := range 3 {
		instr := sender.Instr{Old: uint64(i), New: uint64(i) + 1, Diff: typed}
		s = takes(t, "many", s, whole(t, uint64(i)+1, instr), 1, session.Told{Keys: typed, Fresh: true})
	}
	from, end := s.Keys().Ends()
	if from != 750-256 || end != 750 {
		t.Errorf("keys from %d to %d", from, end)
	}
	// More than are kept: what is new has no beginning any more, so none is told.
	instr := sender.Instr{Old: 3, New: 4, Diff: strings.Repeat("a", 257)}
	takes(t, "too many", s, whole(t, 9, instr), 1, session.Told{Fresh: true})
}

// P17.2: an instruction whose New, or Ack, is Bye: the peer is done, and nothing comes in; the session isn't closing by that.
func TestTakeBye(t *testing.T) {
	for _, i := range []sender.Instr{
		{New: bye, Diff: "x"},
		{New: bye, Ack: bye},
		{New: 1, Ack: bye, Diff: "x"},
		{Old: 7, New: 1, Ack: bye},
	} {
		s := takes(t, "bye", met(t, setting()), whole(t, 1, i), 1, session.Told{Bye: true})
		if closing, done, spent := s.State(); closing || !done || spent {
			t.Errorf("%v: %v, %v, %v", i, closing, done, spent)
		}
		if s.Keys() != met(t, setting()).Keys() {
			t.Errorf("%v: keys came", i)
		}
		s = takes(t, "bye again", s, whole(t, 2, i), 1, session.Told{Bye: true})
		s, code := s.Write("a")
		if code != api.OK {
			t.Errorf("%v: Write: %v", i, code)
		}
		s = takes(t, "typed behind it", s, whole(t, 3, sender.Instr{New: 1, Diff: "y"}), 1, session.Told{Keys: "y", Fresh: true})
		if _, datagrams, _ := s.Send(2); outOf(t, datagrams, 128).instr.New != 1 {
			t.Errorf("%v: the screen isn't sent", i)
		}
	}
}

// What is handed in isn't kept, and the session that took it stays as it was.
func TestTakeKeepsNothing(t *testing.T) {
	s := met(t, setting())
	before := look(s)
	bytes := []byte(whole(t, 1, sender.Instr{New: 1, Diff: "typed"}))
	next, told, code := s.Take(home, unsafe.String(&bytes[0], len(bytes)), 1)
	after := look(next)
	clear(bytes)
	if code != api.OK || told.Keys != "typed" || look(next) != after || look(s) != before {
		t.Errorf("%v, %v: what was handed in is kept", told, code)
	}
}
