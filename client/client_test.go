package client_test

import (
	"reflect"
	"strings"
	"testing"
	"unsafe"

	"vagabond/api"
	"vagabond/client"
	"vagabond/clock"
	"vagabond/screen"
	"vagabond/sender"
	"vagabond/session"
)

// P18.1: New has the errors of layer 17's New.
func TestNewAtTheEdges(t *testing.T) {
	keys := []string{"", "k", strings.Repeat("k", 64), strings.Repeat("k", 65)}
	sets := []session.Setting{
		{},
		{Width: 1, Height: 1, Room: 128, Most: 1},
		{Width: 80, Height: 24, Room: 466, Beat: greatest, Most: 1<<63 - 1},
		{Width: 81, Height: 24, Room: 466, Most: 1},
		{Width: 80, Height: 25, Room: 466, Most: 1},
		{Width: 0, Height: 24, Room: 466, Most: 1},
		{Width: 80, Height: 0, Room: 466, Most: 1},
		{Width: 80, Height: 24, Room: 467, Most: 1},
		{Width: 80, Height: 24, Room: 127, Most: 1},
		{Width: 80, Height: 24, Room: 466},
		{Width: 80, Height: 24, Room: 466, Most: 1 << 63},
	}
	counts := map[api.Errno]int{}
	for _, k := range keys {
		for _, set := range sets {
			c, code := client.New(own, k, set)
			if _, wanted := session.New(own, k, set, 0); code != wanted {
				t.Errorf("New by %q, %v: %v, wanted %v", k, set, code, wanted)
			}
			if code != api.OK && !reflect.DeepEqual(c, client.Client{}) {
				t.Errorf("New by %q, %v: a client beside an error", k, set)
			}
			counts[code]++
		}
	}
	if counts[api.OK] != 4 || counts[api.ErrArg] != 22 || counts[api.ErrRange] != 18 {
		t.Errorf("answers: %v", counts)
	}
}

// P18.1: a new one; the example: 0 pending.
func TestNew(t *testing.T) {
	c := started(t, setting())
	if c.Pending() != 0 || !screen.Same(c.Screen(), shown("")) || c.Clock() != (clock.Clock{}) {
		t.Errorf("a new one: %s", shows(c))
	}
	if next, expect := c.Next(); next != 0 || expect != 0 {
		t.Errorf("a new one: Next %d, %d", next, expect)
	}
	is(t, "a new one", c, false, false)
	silent(t, "a new one", c, 499)
	sends(t, "a new one, at its beat", c, 500, out{number: 1, stamp: 500, reply: mute})
}

// P18.1: Type and Pending: no more than 256 keys behind the sender's first state.
func TestType(t *testing.T) {
	c := started(t, setting())
	if same := typed(t, c, ""); look(same) != look(c) {
		t.Error("Type of nothing changes the client")
	}
	if refused, code := c.Type(strings.Repeat("a", 257)); code != api.ErrFull || look(refused) != look(c) {
		t.Errorf("257 keys: %v", code)
	}
	c = typed(t, typed(t, c, strings.Repeat("a", 255)), "b")
	if c.Pending() != 256 {
		t.Errorf("%d pending, wanted 256", c.Pending())
	}
	if refused, code := c.Type("c"); code != api.ErrFull || look(refused) != look(c) {
		t.Errorf("one more: %v", code)
	}
	typed(t, c, "")
	c, _ = c.Send(1)
	if refused, code := c.Type("c"); code != api.ErrFull || look(refused) != look(c) {
		t.Errorf("one more, that are sent: %v", code)
	}
	c = takes(t, "they are there", c, whole(t, 0, sender.Instr{Ack: 1}), 2, false)
	if c.Pending() != 0 {
		t.Errorf("%d pending, that are there", c.Pending())
	}
	if refused, code := c.Type(strings.Repeat("c", 257)); code != api.ErrFull || look(refused) != look(c) {
		t.Errorf("257 keys behind those that are there: %v", code)
	}
	c = typed(t, c, strings.Repeat("c", 256))
	if c.Pending() != 256 {
		t.Errorf("%d pending, wanted 256", c.Pending())
	}
	_, datagrams := c.Send(3)
	if i := outOf(t, datagrams, 128).instr; i != (sender.Instr{Old: 1, New: 2, Throw: 1, Diff: strings.Repeat("c", 256)}) {
		t.Errorf("256 more: %v", i)
	}
}

// P18.1: what was typed behind a state that the other side has is pending, from that state on.
func TestPendingFromTheFirstState(t *testing.T) {
	c := started(t, setting())
	for i, text := range []string{"abc", "de", "f"} {
		c, _ = typed(t, c, text).Send(uint64(i))
	}
	c = typed(t, c, "ghij")
	if c.Pending() != 10 {
		t.Errorf("%d pending, wanted 10", c.Pending())
	}
	c = takes(t, "five are there", c, whole(t, 0, sender.Instr{Ack: 2}), 2, false)
	if c.Pending() != 5 {
		t.Errorf("%d pending, wanted 5", c.Pending())
	}
	c = takes(t, "a number that isn't there", c, whole(t, 1, sender.Instr{Ack: 9}), 2, false)
	if _, code := c.Type(strings.Repeat("k", 252)); c.Pending() != 5 || code != api.ErrFull {
		t.Errorf("%d pending, then %v", c.Pending(), code)
	}
	c = typed(t, c, strings.Repeat("k", 251))
	_, datagrams := c.Send(3)
	if i := outOf(t, datagrams, 128).instr; i.Old != 2 || i.New != 4 || i.Diff != "fghij"+strings.Repeat("k", 251) {
		t.Errorf("it sends %v", i)
	}
}

// P18.1: a client that is closing has ErrClosed for whatever is typed.
func TestTypeWhereItIsClosing(t *testing.T) {
	c := typed(t, started(t, setting()), "abc").Close()
	is(t, "closing", c, true, false)
	for _, text := range []string{"", "a", strings.Repeat("a", 257)} {
		if refused, code := c.Type(text); code != api.ErrClosed || look(refused) != look(c) {
			t.Errorf("Type of %d bytes: %v", len(text), code)
		}
	}
	if look(c.Close()) != look(c) || c.Pending() != 3 {
		t.Error("Close again isn't as Close")
	}
}

// A client stays as it was, whatever is asked of it, and keeps nothing of what is handed in.
func TestClientStays(t *testing.T) {
	c, _ := typed(t, started(t, setting()), "ab").Send(1)
	c = typed(t, c, "c")
	before := look(c)
	bytes := []byte(whole(t, 0, sender.Instr{New: 1, Ack: 1, Diff: turns("", "hi")}))
	next := takes(t, "a screen", c, unsafe.String(&bytes[0], len(bytes)), 2, true)
	more := []byte("more")
	next = typed(t, next, unsafe.String(&more[0], len(more)))
	after := look(next)
	clear(bytes)
	clear(more)
	if look(next) != after {
		t.Error("what was handed in is kept")
	}
	c.Type("d")
	c.Close()
	c.Send(9000)
	c.Close().Send(9000)
	c.Take(whole(t, 0, sender.Instr{New: bye, Ack: 1}), 2)
	if look(c) != before || look(next) != after {
		t.Error("the client is another one")
	}
}

// A zero one, as New answers beside an error: no call panics, nothing is taken or sent.
func TestZeroClient(t *testing.T) {
	c, _ := client.New(0, "", session.Setting{})
	for _, c := range []client.Client{c, c.Close()} {
		if _, isFresh, code := c.Take(sealed(t, 0, "\x00", down, strings.Repeat("\x00", 14)), 0); code != api.ErrNone || isFresh {
			t.Errorf("Take: %v, %v", isFresh, code)
		}
		silent(t, "zero", c, greatest)
		if c.Pending() != 0 || c.Screen() != (screen.Screen{}) {
			t.Errorf("zero: %s", shows(c))
		}
	}
	if c = typed(t, c, "ab"); c.Pending() != 2 {
		t.Errorf("%d pending", c.Pending())
	}
	silent(t, "zero", c, greatest)
}
