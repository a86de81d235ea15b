package client_test

import (
	"fmt"
	"strings"
	"testing"

	"vagabond/api"
	"vagabond/clock"
	"vagabond/screen"
	"vagabond/sender"
	"vagabond/wire"
)

// P18.2: what is refused, the first fault ahead of those behind it; the client is as it was then.
func TestTakeRefuses(t *testing.T) {
	half := wire.Part{Reply: mute, Number: 9, Index: 1, Text: "half"}
	c := takes(t, "half", typed(t, started(t, setting()), "ab"), gram(t, 5, half), 3, false)
	turned := []byte(gram(t, 6, half))
	turned[len(turned)-1] ^= 1
	other := half
	other.Text = "other"
	beyond := strings.Repeat("\x00", 12) + "\x00\x20"
	cases := []struct {
		what, text string
		wanted     api.Errno
	}{
		{"nothing", "", api.ErrShort},
		{"31 bytes", gram(t, 6, half)[:31], api.ErrShort},
		{"513 bytes", strings.Repeat("a", 513), api.ErrLong},
		{"another id, not Down, forged", strings.Repeat("\x7f", 40), api.ErrNone},
		{"another id, else as it should be", sealed(t, 6, key, down|6, strings.Repeat("\x00", 14)), api.ErrNone},
		{"not Down, stale, forged", "\x00\x00\x00\x00\x00\x00\x00\x05" + strings.Repeat("\x00", 32), api.ErrDir},
		{"not Down, else as it should be", sealed(t, own, key, 6, strings.Repeat("\x00", 14)), api.ErrDir},
		{"forged, stale", "\x00\x00\x00\x00\x00\x00\x00\x05\x80" + strings.Repeat("\x00", 31), api.ErrTag},
		{"a bit turned", string(turned), api.ErrTag},
		{"another key", sealed(t, own, "kex", down|6, strings.Repeat("\x00", 14)), api.ErrTag},
		{"stale, too short", sealed(t, own, key, down|5, ""), api.ErrStale},
		{"stale, the least number", sealed(t, own, key, down, strings.Repeat("\x00", 14)), api.ErrStale},
		{"stale, doubled", gram(t, 5, half), api.ErrStale},
		{"a body of none", sealed(t, own, key, down|6, ""), api.ErrShort},
		{"a body of 13", sealed(t, own, key, down|6, strings.Repeat("\x00", 13)), api.ErrShort},
		{"a part beyond the last", sealed(t, own, key, down|6, beyond), api.ErrRange},
		{"another part of its index", gram(t, 6, other), api.ErrForm},
		{"a Last one ahead of another", gram(t, 6, wire.Part{Number: 9, Last: true}), api.ErrForm},
	}
	before := look(c)
	for _, k := range cases {
		next, isFresh, code := c.Take(k.text, 99)
		if code != k.wanted || isFresh {
			t.Errorf("%s: %v, %v, wanted %v", k.what, isFresh, code, k.wanted)
		}
		if look(next) != before || look(c) != before {
			t.Errorf("%s: refused, and changes the client", k.what)
		}
		c = next
	}
	c = takes(t, "what was expected", c, gram(t, 6, half), 99, false)
	if _, expect := c.Next(); expect != 7 {
		t.Errorf("Expect %d", expect)
	}
}

// P18.2: the number, the stamp, the clock, as layer 17's Take.
func TestTakeAccepts(t *testing.T) {
	c := started(t, setting())
	wanted := clock.Clock{}
	steps := []struct {
		number       uint64
		stamp, reply uint16
		now, since   uint64
	}{
		{0, 7, mute, 3, 0},
		{4, 9, 100, 300, 200},
		{5, 65530, 65530, 65536 + 4, 10},
		{1 << 40, 0, 0, 2, 2},
		{1<<63 - 1, 1, 9, 8, 65535},
	}
	for _, k := range steps {
		p := wire.Part{Stamp: k.stamp, Reply: k.reply, Number: k.number, Last: true, Text: sender.Instr{}.Text()}
		c = takes(t, fmt.Sprint(k), c, gram(t, k.number, p), k.now, false)
		if k.reply != mute {
			wanted = wanted.Told(k.since)
		}
		if _, expect := c.Next(); expect != k.number+1 || c.Clock() != wanted {
			t.Errorf("%v: Expect %d, the clock is %v, wanted %v", k, expect, c.Clock(), wanted)
		}
		later := k.now + 70000
		sends(t, fmt.Sprint(k), c, later, out{number: 1, stamp: uint16(later), reply: k.stamp + (70000 - 65536)})
	}
	if _, _, code := c.Take(whole(t, 1<<63-1, sender.Instr{}), 1); code != api.ErrStale {
		t.Errorf("behind the greatest number: %v", code)
	}
}

// P18.2: screens come in, by parts in whatever order; whether there is a newer one.
func TestTakeScreens(t *testing.T) {
	text := sender.Instr{New: 1, Ack: 1, Diff: turns("", "hi")}.Text()
	part := func(number uint64, index int) wire.Part {
		return wire.Part{Reply: mute, Number: number, Index: index, Last: index == 1, Text: []string{text[:20], text[20:]}[index]}
	}
	c, _ := typed(t, started(t, setting()), "k").Send(0)
	c = takes(t, "the last part", c, gram(t, 0, part(3, 1)), 1, false)
	c = takes(t, "of an elder one", c, gram(t, 1, part(2, 0)), 1, false)
	c = takes(t, "the last part again", c, gram(t, 2, part(3, 1)), 1, false)
	if c.Pending() != 1 || !screen.Same(c.Screen(), shown("")) {
		t.Errorf("ahead of the last part: %s", shows(c))
	}
	c = takes(t, "the other part", c, gram(t, 3, part(3, 0)), 1, true)
	c = takes(t, "the other part again", c, gram(t, 4, part(3, 0)), 1, false)
	if c.Pending() != 0 || !screen.Same(c.Screen(), shown("hi")) {
		t.Errorf("behind the last part: %s", shows(c))
	}
	steps := []struct {
		what    string
		instr   sender.Instr
		isFresh bool
		wanted  string
	}{
		{"there already", sender.Instr{New: 1, Diff: turns("", "no")}, false, "hi"},
		{"a later one", sender.Instr{Old: 1, New: 5, Diff: turns("hi", "ho")}, true, "ho"},
		{"one between", sender.Instr{Old: 1, New: 3, Diff: turns("hi", "no")}, false, "ho"},
		{"without a base", sender.Instr{Old: 4, New: 6, Diff: turns("ho", "no")}, false, "ho"},
		{"not a delta", sender.Instr{Old: 5, New: 6, Diff: "no"}, false, "ho"},
		{"the same again", sender.Instr{Old: 5, New: 7, Diff: turns("ho", "ho")}, true, "ho"},
		{"from the one between, others thrown", sender.Instr{Old: 3, New: 8, Throw: 7, Diff: turns("no", "no way")}, true, "no way"},
		{"what was thrown", sender.Instr{Old: 5, New: 9, Diff: turns("ho", "no")}, false, "no way"},
	}
	for i, k := range steps {
		c = takes(t, k.what, c, whole(t, uint64(i)+5, k.instr), 1, k.isFresh)
		if !screen.Same(c.Screen(), shown(k.wanted)) {
			t.Errorf("%s: the screen has %q", k.what, c.Screen().Rows())
		}
	}
}

// P18.2: Acked of its Ack, whatever the receiver says of the rest; where there is no instruction nothing more.
func TestTakeAcks(t *testing.T) {
	c, _ := typed(t, started(t, setting()), "a").Send(0)
	c, _ = typed(t, c, "bb").Send(1)
	cases := []struct {
		what    string
		instr   sender.Instr
		isFresh bool
		pending uint64
	}{
		{"fresh", sender.Instr{New: 1, Ack: 1, Diff: turns("", "a")}, true, 2},
		{"there already", sender.Instr{Ack: 2}, false, 0},
		{"without a base", sender.Instr{Old: 7, New: 8, Ack: 1}, false, 2},
		{"of what wasn't sent", sender.Instr{Ack: 3}, false, 3},
		{"with Bye", sender.Instr{New: bye, Ack: 2}, false, 0},
		{"Bye", sender.Instr{Ack: bye}, false, 3},
	}
	for _, k := range cases {
		if got := takes(t, k.what, c, whole(t, 0, k.instr), 2, k.isFresh); got.Pending() != k.pending {
			t.Errorf("%s: %d pending, wanted %d", k.what, got.Pending(), k.pending)
		}
	}
	short := wire.Part{Reply: mute, Number: 1, Last: true, Text: strings.Repeat("\xff", 31)}
	got := takes(t, "too short", c, gram(t, 0, short), 2, false)
	is(t, "too short", got, false, false)
	if got.Pending() != 3 || !screen.Same(got.Screen(), shown("")) {
		t.Errorf("too short: %s", shows(got))
	}
}

// P18.2: an instruction whose New is Bye: it is closing, the other side is done; where its Ack alone is: the other side is done.
func TestTakeBye(t *testing.T) {
	cases := []struct {
		what          string
		instr         sender.Instr
		closing, owes bool
	}{
		{"New", sender.Instr{New: bye, Diff: turns("", "a")}, true, true},
		{"New and Ack", sender.Instr{New: bye, Ack: bye}, true, false},
		{"Ack", sender.Instr{New: 1, Ack: bye, Diff: turns("", "a")}, false, false},
	}
	for _, k := range cases {
		c := takes(t, k.what, started(t, setting()), whole(t, 0, k.instr), 1, false)
		is(t, k.what, c, k.closing, true)
		if !screen.Same(c.Screen(), shown("")) {
			t.Errorf("%s: a screen came", k.what)
		}
		_, code := c.Type("a")
		if (code == api.ErrClosed) != k.closing {
			t.Errorf("%s: Type: %v", k.what, code)
		}
		if _, datagrams := c.Close().Send(1); (len(datagrams) > 0) != k.owes {
			t.Errorf("%s: %d datagrams", k.what, len(datagrams))
		}
		takes(t, "a screen behind it", c, whole(t, 1, sender.Instr{New: 1, Diff: turns("", "b")}), 2, true)
	}
}

// P18.2: whether it owes an answer hangs on the last instruction whose New is Bye.
func TestTakeByeAgain(t *testing.T) {
	c := takes(t, "bye", started(t, setting()), whole(t, 0, sender.Instr{New: bye}), 1, false)
	known := takes(t, "it knows", c, whole(t, 1, sender.Instr{New: bye, Ack: bye}), 1, false)
	silent(t, "it knows", known, greatest)
	still := takes(t, "Ack alone", c, whole(t, 1, sender.Instr{Ack: bye}), 1, false)
	sends(t, "Ack alone", still, 1, out{number: 1, stamp: 1, instr: sender.Instr{New: bye, Ack: bye}})
	again := takes(t, "it asks again", known, whole(t, 2, sender.Instr{New: bye}), 1, false)
	sends(t, "it asks again", again, 1, out{number: 1, stamp: 1, instr: sender.Instr{New: bye, Ack: bye}})
}
