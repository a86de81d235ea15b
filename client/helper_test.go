package client_test

import (
	"fmt"
	"math"
	"reflect"
	"testing"
	"unsafe"

	"vagabond/api"
	"vagabond/client"
	"vagabond/delta"
	"vagabond/frag"
	"vagabond/screen"
	"vagabond/seal"
	"vagabond/sender"
	"vagabond/session"
	"vagabond/wire"
)

const (
	greatest = math.MaxUint64
	bye      = math.MaxUint64
	key      = "key"
	own      = api.ID(5)
	down     = 1 << 63
	// mute is the reply of an end to which no stamp came.
	mute = 65535
)

// setting: what the clients of these tests go by, where nothing else is said.
func setting() session.Setting {
	return session.Setting{Width: 12, Height: 3, Room: 128, Beat: 500, Most: 1000}
}

// started: a client by a setting.
func started(t *testing.T, set session.Setting) client.Client {
	t.Helper()
	c, code := client.New(own, key, set)
	if code != api.OK {
		t.Fatalf("New by %v: %v", set, code)
	}
	return c
}

// typed: a client behind keys.
func typed(t *testing.T, c client.Client, text string) client.Client {
	t.Helper()
	c, code := c.Type(text)
	if code != api.OK {
		t.Fatalf("Type of %q: %v", text, code)
	}
	return c
}

// sealed: a datagram of a body.
func sealed(t *testing.T, id api.ID, k string, nonce uint64, body string) string {
	t.Helper()
	box, code := seal.New(k)
	if code != api.OK {
		t.Fatal(code)
	}
	text, code := wire.Datagram{ID: id, Nonce: nonce, Sealed: box.Seal(id, nonce, body)}.Bytes()
	if code != api.OK {
		t.Fatal(code)
	}
	return text
}

// gram: the session's datagram of a part.
func gram(t *testing.T, number uint64, p wire.Part) string {
	t.Helper()
	body, code := p.Bytes()
	if code != api.OK {
		t.Fatal(code)
	}
	return sealed(t, own, key, down|number, body)
}

// whole: the session's datagram of an instruction in one part, whose number is one more than the datagram's.
func whole(t *testing.T, number uint64, i sender.Instr) string {
	t.Helper()
	return gram(t, number, wire.Part{Reply: mute, Number: number + 1, Last: true, Text: i.Text()})
}

// shown: a blank screen behind output.
func shown(text string) screen.Screen {
	blank, _ := screen.New(12, 3)
	return blank.Put(text)
}

// turns: the diff from the screen behind one output to that behind another.
func turns(old, now string) string { return delta.Of(shown(old), shown(now)) }

// out is what a client sent: the number of the first datagram and that of the instruction, the stamps of all, and the instruction.
type out struct {
	first, number uint64
	stamp, reply  uint16
	instr         sender.Instr
}

// outOf: what datagrams tell, which don't go Down, by rising numbers, and whose parts are full but the last.
func outOf(t *testing.T, datagrams []string, room int) out {
	t.Helper()
	var parts []wire.Part
	var o out
	box, _ := seal.New(key)
	for i, text := range datagrams {
		d, code := wire.Parse(text)
		if code != api.OK || d.ID != own {
			t.Fatalf("what was sent is no datagram of the client: %v, %v", d, code)
		}
		body, code := box.Open(d.ID, d.Nonce, d.Sealed)
		if code != api.OK {
			t.Fatal(code)
		}
		p, code := wire.Read(body)
		if code != api.OK {
			t.Fatal(code)
		}
		if i == 0 {
			o = out{first: d.Nonce, number: p.Number, stamp: p.Stamp, reply: p.Reply}
		}
		isLast := i == len(datagrams)-1
		if d.Nonce >= down || d.Nonce != o.first+uint64(i) || p.Number != o.number || p.Stamp != o.stamp || p.Reply != o.reply || p.Index != i || p.Last != isLast {
			t.Errorf("datagram %d of %v has the nonce %d and the part %v", i, o, d.Nonce, p)
		}
		if len(p.Text) > room || !isLast && len(p.Text) < room {
			t.Errorf("a part of %d bytes, room for %d", len(p.Text), room)
		}
		parts = append(parts, p)
	}
	text, ok := frag.Join(parts)
	if !ok {
		t.Fatal("the parts aren't whole")
	}
	i, code := sender.Parse(text)
	if code != api.OK {
		t.Fatal(code)
	}
	o.instr = i
	return o
}

// sends: at a tick the client sends that, in datagrams of its room.
func sends(t *testing.T, what string, c client.Client, now uint64, wanted out) client.Client {
	t.Helper()
	next, datagrams := c.Send(now)
	if len(datagrams) == 0 {
		t.Fatalf("%s: Send at %d: nothing", what, now)
	}
	if got := outOf(t, datagrams, 128); got != wanted {
		t.Errorf("%s: Send at %d: %v, wanted %v", what, now, got, wanted)
	}
	return next
}

// silent: at a tick the client sends nothing, and is as it was.
func silent(t *testing.T, what string, c client.Client, now uint64) {
	t.Helper()
	next, datagrams := c.Send(now)
	if len(datagrams) != 0 {
		t.Errorf("%s: Send at %d: %d datagrams", what, now, len(datagrams))
	}
	if look(next) != look(c) {
		t.Errorf("%s: Send at %d has nothing, and changes the client", what, now)
	}
}

// takes: the client takes a datagram, by which there is a newer screen, or none.
func takes(t *testing.T, what string, c client.Client, text string, now uint64, wanted bool) client.Client {
	t.Helper()
	next, isFresh, code := c.Take(text, now)
	if code != api.OK || isFresh != wanted {
		t.Errorf("%s: %v, %v, wanted %v", what, isFresh, code, wanted)
	}
	return next
}

// is: what a client's State is.
func is(t *testing.T, what string, c client.Client, closing, done bool) {
	t.Helper()
	if isClosing, isDone := c.State(); isClosing != closing || isDone != done {
		t.Errorf("%s: %v, %v, wanted %v, %v", what, isClosing, isDone, closing, done)
	}
}

// shows: all that a client tells by its calls, but what it sends.
func shows(c client.Client) string {
	closing, done := c.State()
	next, expect := c.Next()
	return fmt.Sprintf("%q %d %v %v %d %d %+v", c.Screen().Text(), c.Pending(), closing, done, next, expect, c.Clock())
}

// look: all that a client tells, and what it sends from now on, at ticks of which each is far behind the other.
func look(c client.Client) string {
	seen := shows(c)
	for _, now := range []uint64{0, 1, 300, 5000, 200000, 9000000} {
		next, datagrams := c.Send(now)
		seen += fmt.Sprintf("; %d %x", now, datagrams)
		c = next
	}
	return seen + shows(c)
}

// skipTo: the client as if its next datagram had that number; no test can send so many.
func skipTo(c client.Client, number uint64) client.Client {
	next := reflect.ValueOf(&c).Elem().FieldByName("talk").FieldByName("next")
	*(*uint64)(unsafe.Pointer(next.UnsafeAddr())) = number
	return c
}
