package session_test

import (
	"math/rand"
	"strings"
	"testing"
	"unsafe"

	"vagabond/api"
	"vagabond/delta"
	"vagabond/frag"
	"vagabond/screen"
	"vagabond/sender"
	"vagabond/session"
	"vagabond/wire"
)

// from: the diff from a blank screen to the one behind output.
func from(set session.Setting, text string) string {
	blank, _ := screen.New(set.Width, set.Height)
	return delta.Of(blank, blank.Put(text))
}

// P17.3: none, where there is no peer, whatever else there was to send.
func TestSendWithoutAPeer(t *testing.T) {
	s := started(t, setting())
	s, _ = s.Write("hi")
	for _, s := range []session.Session{s, s.Close()} {
		silent(t, "no peer", s, greatest)
		if s.Due() != greatest {
			t.Errorf("no peer: Due %d", s.Due())
		}
	}
	set := setting()
	set.Most = 1
	silent(t, "no peer, few numbers", started(t, set), greatest)
}

// P17.3: the sender's Next: of the clock's Wait, of Beat, of the receiver's Latest.
func TestSendScreens(t *testing.T) {
	s := met(t, setting())
	silent(t, "nothing to send", s, 499)
	s, _ = s.Write("ab")
	if s.Due() != 0 {
		t.Errorf("a new screen: Due %d", s.Due())
	}
	s = sends(t, "a new screen", s, 10, 128, out{number: 1, stamp: 10, reply: 10, instr: sender.Instr{New: 1, Diff: from(setting(), "ab")}})
	silent(t, "sent", s, 11)
	if s.Due() != 510 {
		t.Errorf("sent: Due %d, wanted the beat", s.Due())
	}
	s = sends(t, "the beat", s, 510, 128, out{first: 1, number: 2, stamp: 510, reply: 510, instr: sender.Instr{New: 1, Diff: from(setting(), "ab")}})
	p := wire.Part{Stamp: 40000, Reply: 500, Number: 2, Last: true, Text: sender.Instr{New: 1, Diff: "k"}.Text()}
	s = takes(t, "a key, and how long it takes", s, gram(t, 1, p), 600, session.Told{Keys: "k", Fresh: true})
	if wait := s.Clock().Wait(); wait != 300 || s.Due() != 510+300 {
		t.Errorf("Wait %d, Due %d", wait, s.Due())
	}
	silent(t, "ahead of the wait", s, 809)
	s = sends(t, "the wait", s, 810, 128, out{first: 2, number: 3, stamp: 810, reply: 40000 + 210, instr: sender.Instr{New: 1, Ack: 1, Diff: from(setting(), "ab")}})
	s = takes(t, "the peer has it", s, whole(t, 2, sender.Instr{Old: 1, New: 4, Ack: 1}), 900, session.Told{Fresh: true})
	if s.Due() != 810+500 {
		t.Errorf("the peer has all: Due %d, wanted the beat", s.Due())
	}
	s, _ = s.Write("c")
	wanted := delta.Of(s.Screen().Put("\x08"), s.Screen())
	if s.Screen().Cells()[:3] != "abc" {
		t.Errorf("the screen has %q", s.Screen().Cells())
	}
	wanted = wanted[:3] + "\x00\x02\x01c"
	sends(t, "from what it has", s, 901, 128, out{first: 3, number: 4, stamp: 901, reply: 1, instr: sender.Instr{Old: 1, New: 2, Ack: 4, Throw: 1, Diff: wanted}})
}

// Words: a session's datagrams are an instruction's parts, of its room; the greatest screen goes into as many as may be.
func TestSendInParts(t *testing.T) {
	for _, room := range []int{128, 200, 466} {
		set := session.Setting{Width: 80, Height: 24, Room: room, Beat: 9, Most: 99}
		s := met(t, set)
		text := strings.Repeat("a ", 80*12)
		s, _ = s.Write(text[:len(text)-1])
		instr := sender.Instr{New: 1, Diff: from(set, text[:len(text)-1])}
		next := sends(t, "a great screen", s, 3, room, out{number: 1, stamp: 3, reply: 3, instr: instr})
		parts, code := frag.Split(1, instr.Text(), room)
		if number, _ := next.Next(); code != api.OK || number != uint64(len(parts)) {
			t.Errorf("room %d: the next number is %d, behind %d parts", room, number, len(parts))
		}
		sends(t, "again", next, 12, room, out{first: uint64(len(parts)), number: 2, stamp: 12, reply: 12, instr: instr})
	}
}

// P17.3: eight states wait at most; what is written then goes out when one is known.
func TestSendEightStates(t *testing.T) {
	s := met(t, setting())
	for i := range 7 {
		s, _ = s.Write("a")
		s = sends(t, "a new screen", s, 1, 128, out{first: uint64(i), number: uint64(i) + 1, stamp: 1, reply: 1, instr: sender.Instr{New: uint64(i) + 1, Diff: from(setting(), strings.Repeat("a", i+1))}})
	}
	s, _ = s.Write("b")
	silent(t, "eight states", s, 2)
	if s.Due() != 501 {
		t.Errorf("eight states: Due %d", s.Due())
	}
	s = takes(t, "known", s, whole(t, 1, sender.Instr{Ack: 3}), 2, session.Told{})
	_, datagrams, _ := s.Send(2)
	if i := outOf(t, datagrams, 128).instr; i.Old != 3 || i.New != 8 || i.Throw != 3 {
		t.Errorf("one is known: %v", i)
	}
}

// refusesToSend: Send tells ErrSpent, nothing is sent, then or ever; all else stays.
func refusesToSend(t *testing.T, what string, s session.Session, now uint64) session.Session {
	t.Helper()
	next, datagrams, code := s.Send(now)
	if code != api.ErrSpent || len(datagrams) != 0 {
		t.Errorf("%s: %d datagrams, %v", what, len(datagrams), code)
	}
	closing, done, spent := next.State()
	if wasClosing, wasDone, _ := s.State(); closing != wasClosing || done != wasDone || !spent {
		t.Errorf("%s: %v, %v, %v", what, closing, done, spent)
	}
	if next.Due() != greatest {
		t.Errorf("%s: Due %d", what, next.Due())
	}
	number, expect := next.Next()
	if was, expected := s.Next(); number != was || expect != expected || next.Seen() != s.Seen() || next.Clock() != s.Clock() || !screen.Same(next.Screen(), s.Screen()) {
		t.Errorf("%s: was %s, is %s", what, shows(s), shows(next))
	}
	if again, datagrams, code := next.Send(greatest); code != api.ErrSpent || len(datagrams) != 0 || shows(again) != shows(next) {
		t.Errorf("%s, again: %d datagrams, %v", what, len(datagrams), code)
	}
	return next
}

// P17.3: numbers end with Most: what would be above it is never sent, nor anything behind it.
func TestSendSpent(t *testing.T) {
	set := setting()
	set.Most = 2
	s := met(t, set)
	for i := range uint64(3) {
		s, _ = s.Write("a")
		s = sends(t, "a number", s, i, 128, out{first: i, number: i + 1, stamp: uint16(i), reply: uint16(i), instr: sender.Instr{New: i + 1, Diff: from(set, strings.Repeat("a", 1+int(i)))}})
	}
	s, _ = s.Write("a")
	if _, _, spent := s.State(); spent || s.Due() != 0 {
		t.Error("it is spent ahead of Send")
	}
	refusesToSend(t, "something is due", s, 3)
	refusesToSend(t, "it is closing", s.Close(), 3)
	quiet := takes(t, "the peer has all", met(t, set), whole(t, 1, sender.Instr{}), 1, session.Told{})
	for i := range uint64(3) {
		quiet = sends(t, "a beat", quiet, 500+500*i, 128, out{first: i, number: i + 1, stamp: uint16(500 + 500*i), reply: uint16(499 + 500*i), instr: sender.Instr{Diff: nothing}})
	}
	quiet = refusesToSend(t, "nothing is due", quiet, 1501)
	quiet = takes(t, "spent, but it takes", quiet, whole(t, 2, sender.Instr{New: 1, Diff: "k"}), 1502, session.Told{Keys: "k", Fresh: true})
	quiet, code := quiet.Write("a")
	if _, _, spent := quiet.Close().State(); code != api.OK || !spent || quiet.Seen() != 1502 {
		t.Errorf("spent, then a datagram and output: %v, %s", code, shows(quiet))
	}
}

// P17.3: as many numbers as it has parts must be there.
func TestSendPartsAreSpent(t *testing.T) {
	set := session.Setting{Width: 80, Height: 24, Room: 128, Beat: 50}
	text := strings.Repeat("a ", 120) // six parts: 32 bytes, 3, and four for each a
	for _, c := range []struct {
		most  uint64
		wants int
	}{{1, 0}, {2, 0}, {3, 0}, {4, 5}, {5, 5}, {9, 5}} {
		set.Most = c.most
		s := met(t, set)
		s, _ = s.Write(text)
		_, datagrams, code := s.Send(1)
		if len(datagrams) != c.wants || (code == api.OK) != (c.wants > 0) {
			t.Errorf("Most %d: %d datagrams, %v", c.most, len(datagrams), code)
		}
		if c.wants == 0 {
			small, _ := refusesToSend(t, "too few numbers", s, 1).Write("\x0c")
			refusesToSend(t, "though it fits now", small, 2)
		}
	}
}

// P17.3: where it is closing the instruction that says so: at once, and each time that Wait is over, till the peer is done.
func TestSendClosing(t *testing.T) {
	s := met(t, setting())
	s, _ = s.Write("a")
	s, _, _ = s.Send(1)
	s = takes(t, "known", s, whole(t, 1, sender.Instr{New: 1, Ack: 1, Diff: "k"}), 2, session.Told{Keys: "k", Fresh: true})
	s, _ = s.Write("unsent")
	s = s.Close()
	if closing, done, spent := s.State(); !closing || done || spent || s.Due() != 0 {
		t.Errorf("closing: %s", shows(s))
	}
	says := sender.Instr{Old: 1, New: bye, Ack: 1, Throw: 1}
	s = sends(t, "closing", s, 100, 128, out{first: 1, number: 2, stamp: 100, reply: 98, instr: says})
	if s.Due() != 1100 {
		t.Errorf("it said so: Due %d", s.Due())
	}
	silent(t, "it said so", s, 1099)
	s = sends(t, "again", s, 1100, 128, out{first: 2, number: 3, stamp: 1100, reply: 1098, instr: says})
	s = takes(t, "how long it takes", s, stamped(t, 2, 0, 1100), 1120, session.Told{})
	if wait := s.Clock().Wait(); wait != 60 || s.Due() != 1160 {
		t.Errorf("Wait %d, Due %d", wait, s.Due())
	}
	silent(t, "ahead of the wait", s, 1159)
	s = sends(t, "the wait", s, 1160, 128, out{first: 3, number: 4, stamp: 1160, reply: 40, instr: says})
	done := takes(t, "the peer is done, and knows", s, whole(t, 3, sender.Instr{New: bye, Ack: bye}), 1170, session.Told{Bye: true})
	if done.Due() != greatest {
		t.Errorf("both are done: Due %d", done.Due())
	}
	silent(t, "both are done", done, greatest)
	owes := takes(t, "the peer is done", s, whole(t, 3, sender.Instr{New: bye, Ack: 1}), 1161, session.Told{Bye: true})
	if owes.Due() != 0 {
		t.Errorf("an answer is owed: Due %d", owes.Due())
	}
	says.Ack = bye
	answered := sends(t, "the answer", owes, 1161, 128, out{first: 4, number: 5, stamp: 1161, instr: says})
	if answered.Due() != greatest {
		t.Errorf("answered: Due %d", answered.Due())
	}
	silent(t, "answered", answered, greatest)
	again := takes(t, "the peer asks again", answered, whole(t, 4, sender.Instr{New: bye}), 1170, session.Told{Bye: true})
	sends(t, "the answer again", again, 1170, 128, out{first: 5, number: 6, stamp: 1170, instr: says})
	none := takes(t, "the peer needs none", owes, whole(t, 4, sender.Instr{Ack: bye}), 1170, session.Told{Bye: true})
	silent(t, "none is owed any more", none, greatest)
	if none.Due() != greatest {
		t.Errorf("none is owed any more: Due %d", none.Due())
	}
}

// P17.3: a peer that is done: its answer waits till the session is closing; till then screens go out.
func TestSendAnswersWhenItCloses(t *testing.T) {
	s := takes(t, "bye", met(t, setting()), whole(t, 1, sender.Instr{New: bye}), 1, session.Told{Bye: true})
	silent(t, "nothing to send", s, 2)
	if s.Due() != 500 {
		t.Errorf("not closing: Due %d", s.Due())
	}
	s, _ = s.Write("a")
	s = sends(t, "a screen", s, 2, 128, out{number: 1, stamp: 2, reply: 1, instr: sender.Instr{New: 1, Diff: from(setting(), "a")}})
	sends(t, "the answer", s.Close(), 3, 128, out{first: 1, number: 2, stamp: 3, reply: 2, instr: sender.Instr{New: bye, Ack: bye}})
	s = takes(t, "no answer is owed", s, whole(t, 2, sender.Instr{New: bye, Ack: bye}), 3, session.Told{Bye: true})
	silent(t, "no answer is owed", s.Close(), greatest)
	if s.Close().Due() != greatest {
		t.Errorf("no answer is owed: Due %d", s.Close().Due())
	}
}

// P17.3: Write and Close.
func TestWriteAndClose(t *testing.T) {
	s := met(t, setting())
	text := []byte("abc\r\n\x0cdef")
	next, code := s.Write(unsafe.String(&text[0], len(text)))
	wanted := s.Screen().Put(string(text))
	clear(text)
	if code != api.OK || !screen.Same(next.Screen(), wanted) || screen.Same(s.Screen(), wanted) {
		t.Errorf("Write: %v, %q", code, next.Screen().Cells())
	}
	same, code := next.Write("")
	if code != api.OK || look(same) != look(next) {
		t.Errorf("Write of nothing: %v", code)
	}
	shut := next.Close()
	refused, code := shut.Write("more")
	if code != api.ErrClosed || look(refused) != look(shut) {
		t.Errorf("Write to a closing one: %v", code)
	}
	if look(shut.Close()) != look(shut) || look(next) == look(shut) {
		t.Error("Close again isn't as Close")
	}
}

// A session stays as it was, whatever is asked of it.
func TestSessionStays(t *testing.T) {
	s := met(t, setting())
	s, _ = s.Write("hi")
	s, _, _ = s.Send(1)
	s = takes(t, "half", s, gram(t, 1, wire.Part{Reply: mute, Number: 2, Index: 1, Last: true, Text: "b"}), 1, session.Told{})
	before := look(s)
	s.Write("more")
	s.Close()
	s.Send(9000)
	s.Close().Send(9000)
	s.Take(api.Addr{Host: 7}, whole(t, 9, sender.Instr{New: 3, Ack: 1, Diff: "k"}), 44)
	s.Take(api.Addr{Host: 7}, whole(t, 9, sender.Instr{New: bye, Ack: 1}), 44)
	s.Take(api.Addr{Host: 7}, gram(t, 9, wire.Part{Number: 2, Text: "a"}), 44)
	if look(s) != before {
		t.Error("the session is another one")
	}
}

// P17.3: Due is the first tick from which on Send has something, whatever came, was written, and sent.
func TestDueIsTheFirst(t *testing.T) {
	r := rand.New(rand.NewSource(173))
	counts := map[string]int{}
	for range 60 {
		set := session.Setting{Width: 12, Height: 3, Room: 128, Beat: uint64(r.Intn(3000)), Most: 1 << 20}
		s := met(t, set)
		now, number := uint64(0), uint64(1)
		for range 100 {
			now += uint64(r.Intn(400))
			switch r.Intn(40) {
			case 0:
				s = s.Close()
			case 1:
				s, _, _ = s.Take(home, whole(t, number, sender.Instr{New: bye, Ack: []uint64{0, bye}[r.Intn(2)]}), now)
				number++
			case 2, 3, 4, 5, 6:
				i := sender.Instr{New: 1, Ack: uint64(r.Intn(12)), Diff: "k"}
				p := wire.Part{Reply: uint16(now) - uint16(r.Intn(900)), Number: number + 1, Last: true, Text: i.Text()}
				s, _, _ = s.Take(home, gram(t, number, p), now)
				number++
			case 7, 8, 9, 10, 11:
				s, _ = s.Write(string(rune('a' + r.Intn(26))))
			}
			checkDue(t, s, now, counts)
			if t.Failed() {
				return
			}
			s, _, _ = s.Send(now)
		}
	}
	for _, what := range []string{"never", "at once", "later"} {
		if counts[what] < 50 {
			t.Errorf("%s came only %d times", what, counts[what])
		}
	}
}

// checkDue: Send has something from Due on, and nothing ahead of it.
func checkDue(t *testing.T, s session.Session, now uint64, counts map[string]int) {
	t.Helper()
	due := s.Due()
	if due == greatest {
		counts["never"]++
		silent(t, "never due", s, greatest)
		return
	}
	for _, at := range []uint64{due, due + 1, max(due, now), due + 100000} {
		if _, datagrams, code := s.Send(at); len(datagrams) == 0 || code != api.OK {
			t.Errorf("Due %d, and at %d there is nothing: %v", due, at, code)
		}
	}
	if due == 0 {
		counts["at once"]++
		return
	}
	counts["later"]++
	silent(t, "ahead of Due", s, due-1)
	silent(t, "long ahead of Due", s, 0)
}

// P17.3: ends of numbers: what is due doesn't go round.
func TestDueAtTheEnds(t *testing.T) {
	set := setting()
	set.Beat = greatest
	s := met(t, set)
	s, _ = s.Write("a")
	s, _, _ = s.Send(greatest - 10)
	if s.Due() != greatest {
		t.Errorf("Due %d", s.Due())
	}
	silent(t, "ahead of the last tick", s, greatest-1)
	if _, datagrams, _ := s.Send(greatest); len(datagrams) != 1 {
		t.Error("at the last tick nothing is sent")
	}
	s, _, _ = s.Close().Send(greatest - 10)
	silent(t, "closing, ahead of the last tick", s, greatest-1)
	if _, datagrams, _ := s.Send(greatest); len(datagrams) != 1 || s.Due() != greatest {
		t.Error("closing, at the last tick nothing is sent")
	}
}
