package session_test

import (
	"fmt"
	"math"
	"testing"

	"vagabond/api"
	"vagabond/frag"
	"vagabond/seal"
	"vagabond/sender"
	"vagabond/session"
	"vagabond/wire"
)

const (
	greatest = math.MaxUint64
	bye      = math.MaxUint64
	key      = "key"
	own      = api.ID(5)
	// mute is the reply of a peer to which no stamp came.
	mute = 65535
	// nothing is the diff from a screen to itself, with the cursor at its beginning.
	nothing = "d\x00\x00"
)

// home is where the peer is.
var home = api.Addr{Host: 1, Port: 2}

// setting: what the sessions of these tests go by, where nothing else is said.
func setting() session.Setting {
	return session.Setting{Width: 12, Height: 3, Room: 128, Beat: 500, Most: 1000}
}

// started: a session by a setting.
func started(t *testing.T, set session.Setting) session.Session {
	t.Helper()
	s, code := session.New(own, key, set, 0)
	if code != api.OK {
		t.Fatalf("New by %v: %v", set, code)
	}
	return s
}

// sealed: a datagram of a body.
func sealed(t *testing.T, id api.ID, k string, nonce uint64, body string) string {
	t.Helper()
	box, code := seal.New(k)
	if code != api.OK {
		t.Fatal(code)
	}
	text, code := wire.Datagram{ID: id, Nonce: nonce, Sealed: box.Seal(id, nonce, body)}.Bytes()
	if code != api.OK {
		t.Fatal(code)
	}
	return text
}

// gram: the peer's datagram of a part.
func gram(t *testing.T, number uint64, p wire.Part) string {
	t.Helper()
	body, code := p.Bytes()
	if code != api.OK {
		t.Fatal(code)
	}
	return sealed(t, own, key, number, body)
}

// whole: the peer's datagram of an instruction in one part, whose number is one more than the datagram's.
func whole(t *testing.T, number uint64, i sender.Instr) string {
	t.Helper()
	return gram(t, number, wire.Part{Reply: mute, Number: number + 1, Last: true, Text: i.Text()})
}

// opened: the number and the part of a datagram that a session sent.
func opened(t *testing.T, text string) (uint64, wire.Part) {
	t.Helper()
	d, code := wire.Parse(text)
	if code != api.OK || d.ID != own {
		t.Fatalf("what was sent is no datagram of the session: %v, %v", d, code)
	}
	number, down := seal.Seq(d.Nonce)
	if !down {
		t.Errorf("datagram %d doesn't go Down", number)
	}
	box, _ := seal.New(key)
	body, code := box.Open(d.ID, d.Nonce, d.Sealed)
	if code != api.OK {
		t.Fatalf("datagram %d: %v", number, code)
	}
	p, code := wire.Read(body)
	if code != api.OK {
		t.Fatalf("datagram %d: %v", number, code)
	}
	return number, p
}

// out is what a session sent: the number of the first datagram and that of the instruction, the stamps of all, and the instruction.
type out struct {
	first, number uint64
	stamp, reply  uint16
	instr         sender.Instr
}

// outOf: what datagrams tell, which go by rising numbers, and whose parts are full but the last.
func outOf(t *testing.T, datagrams []string, room int) out {
	t.Helper()
	if len(datagrams) == 0 {
		t.Fatal("nothing was sent")
	}
	var parts []wire.Part
	var o out
	for i, text := range datagrams {
		number, p := opened(t, text)
		if i == 0 {
			o = out{first: number, number: p.Number, stamp: p.Stamp, reply: p.Reply}
		}
		isLast := i == len(datagrams)-1
		if number != o.first+uint64(i) || p.Number != o.number || p.Stamp != o.stamp || p.Reply != o.reply || p.Index != i || p.Last != isLast {
			t.Errorf("datagram %d of %v has the number %d and the part %v", i, o, number, p)
		}
		if len(p.Text) > room || !isLast && len(p.Text) < room {
			t.Errorf("a part of %d bytes, room for %d", len(p.Text), room)
		}
		parts = append(parts, p)
	}
	text, ok := frag.Join(parts)
	if !ok {
		t.Fatal("the parts aren't whole")
	}
	i, code := sender.Parse(text)
	if code != api.OK {
		t.Fatal(code)
	}
	o.instr = i
	return o
}

// sends: at a tick the session sends that, in datagrams of its room.
func sends(t *testing.T, what string, s session.Session, now uint64, room int, wanted out) session.Session {
	t.Helper()
	next, datagrams, code := s.Send(now)
	if code != api.OK {
		t.Fatalf("%s: Send at %d: %v", what, now, code)
	}
	if len(datagrams) == 0 {
		t.Fatalf("%s: Send at %d: nothing", what, now)
	}
	if got := outOf(t, datagrams, room); got != wanted {
		t.Errorf("%s: Send at %d: %v, wanted %v", what, now, got, wanted)
	}
	return next
}

// silent: at a tick the session sends nothing, and is as it was.
func silent(t *testing.T, what string, s session.Session, now uint64) {
	t.Helper()
	next, datagrams, code := s.Send(now)
	if len(datagrams) != 0 || code != api.OK {
		t.Errorf("%s: Send at %d: %d datagrams, %v", what, now, len(datagrams), code)
	}
	if look(next) != look(s) {
		t.Errorf("%s: Send at %d has nothing, and changes the session", what, now)
	}
}

// takes: the session takes a datagram from home.
func takes(t *testing.T, what string, s session.Session, text string, now uint64, wanted session.Told) session.Session {
	t.Helper()
	next, told, code := s.Take(home, text, now)
	if code != api.OK || told != wanted {
		t.Errorf("%s: %v, %v, wanted %v", what, told, code, wanted)
	}
	return next
}

// met: a session that took one datagram from home, of number 0: an instruction 1 that leads to no new state.
func met(t *testing.T, set session.Setting) session.Session {
	t.Helper()
	return takes(t, "met", started(t, set), whole(t, 0, sender.Instr{}), 0, session.Told{Moved: true})
}

// shows: all that a session tells by its calls, but what it sends.
func shows(s session.Session) string {
	peer, known := s.Peer()
	closing, done, spent := s.State()
	next, expect := s.Next()
	k := s.Keys()
	from, end := k.Ends()
	held, _ := k.Since(from)
	return fmt.Sprintf("%q %d %d %q %v %v %d %d %v %v %v %d %d %d %+v", s.Screen().Text(), from, end, held, peer, known, s.Due(), s.Seen(), closing, done, spent, next, expect, s.ID(), s.Clock())
}

// look: all that a session tells, and what it sends from now on, at ticks of which each is far behind the other.
func look(s session.Session) string {
	seen := shows(s)
	for _, now := range []uint64{0, 1, 300, 5000, 200000, 9000000} {
		next, datagrams, code := s.Send(now)
		seen += fmt.Sprintf("; %d %x %v", now, datagrams, code)
		s = next
	}
	return seen + shows(s)
}
