package client_test

import (
	"strings"
	"testing"

	"vagabond/sender"
	"vagabond/wire"
)

// P18.3: the sender's Next: of the clock's Wait, of Beat, of the receiver's Latest.
func TestSendKeys(t *testing.T) {
	c := typed(t, started(t, setting()), "ls")
	c = sends(t, "keys", c, 3, out{number: 1, stamp: 3, reply: mute, instr: sender.Instr{New: 1, Diff: "ls"}})
	silent(t, "sent", c, 502)
	c = sends(t, "the beat", c, 503, out{first: 1, number: 2, stamp: 503, reply: mute, instr: sender.Instr{New: 1, Diff: "ls"}})
	p := wire.Part{Stamp: 40000, Reply: 500, Number: 1, Last: true, Text: sender.Instr{New: 4, Diff: turns("", "hi")}.Text()}
	c = takes(t, "a screen, and how long it takes", c, gram(t, 0, p), 600, true)
	silent(t, "ahead of the wait", c, 802)
	c = sends(t, "the wait", c, 803, out{first: 2, number: 3, stamp: 803, reply: 40000 + 203, instr: sender.Instr{New: 1, Ack: 4, Diff: "ls"}})
	c = typed(t, c, " -l")
	c = sends(t, "more keys", c, 804, out{first: 3, number: 4, stamp: 804, reply: 40000 + 204, instr: sender.Instr{New: 2, Ack: 4, Diff: "ls -l"}})
	c = takes(t, "some are there", c, whole(t, 1, sender.Instr{Ack: 1}), 900, false)
	silent(t, "ahead of the wait again", c, 1103)
	c = sends(t, "what isn't there", c, 1104, out{first: 4, number: 5, stamp: 1104, reply: 204, instr: sender.Instr{Old: 1, New: 2, Ack: 4, Throw: 1, Diff: " -l"}})
	c = takes(t, "all are there", c, whole(t, 2, sender.Instr{Ack: 2}), 1200, false)
	silent(t, "ahead of the beat", c, 1603)
	sends(t, "nothing, by the beat", c, 1604, out{first: 5, number: 6, stamp: 1604, reply: 404, instr: sender.Instr{Old: 2, New: 2, Ack: 4, Throw: 2}})
}

// P18.3: of a tick nothing else is sent: what is typed in eight states waits, till one is known.
func TestSendEightStates(t *testing.T) {
	c := started(t, setting())
	for i := range uint64(7) {
		c = sends(t, "keys", typed(t, c, "a"), 1, out{first: i, number: i + 1, stamp: 1, reply: mute, instr: sender.Instr{New: i + 1, Diff: strings.Repeat("a", int(i)+1)}})
	}
	c = typed(t, c, "b")
	silent(t, "eight states", c, 2)
	c = takes(t, "known", c, whole(t, 0, sender.Instr{Ack: 3}), 2, false)
	sends(t, "one is known", c, 2, out{first: 7, number: 8, stamp: 2, reply: 0, instr: sender.Instr{Old: 3, New: 8, Throw: 3, Diff: "aaaab"}})
}

// Words: a client's datagrams are an instruction's parts, of its room.
func TestSendInParts(t *testing.T) {
	c := typed(t, started(t, setting()), strings.Repeat("0123456789", 25))
	c = sends(t, "three parts", c, 1, out{number: 1, stamp: 1, reply: mute, instr: sender.Instr{New: 1, Diff: strings.Repeat("0123456789", 25)}})
	if next, _ := c.Next(); next != 3 {
		t.Errorf("behind three parts: %d", next)
	}
}

// Words: a client's numbers end with 2^63 - 1, not with Most; where there aren't as many as parts, nothing is sent.
func TestSendNumbersEnd(t *testing.T) {
	const last = 1<<63 - 1
	set := setting()
	set.Most = 1
	c := started(t, set)
	for i := range uint64(9) {
		c = sends(t, "beyond Most", c, 500*(i+1), out{first: i, number: i + 1, stamp: uint16(500 * (i + 1)), reply: mute})
	}
	three := typed(t, started(t, set), strings.Repeat("0123456789", 25))
	for number, wants := range map[uint64]int{last - 3: 3, last - 2: 3, last - 1: 0, last: 0, last + 1: 0} {
		c := skipTo(three, number)
		next, datagrams := c.Send(1)
		if out, _ := next.Next(); len(datagrams) != wants || out != number+uint64(wants) {
			t.Errorf("three parts from %d on: %d, then %d", number, len(datagrams), out)
		}
		if wants == 0 {
			silent(t, "too few numbers", c, 1)
		}
	}
	c = skipTo(typed(t, started(t, set), "a"), last)
	c = sends(t, "the last number", c, 1, out{first: last, number: 1, stamp: 1, reply: mute, instr: sender.Instr{New: 1, Diff: "a"}})
	silent(t, "behind the last number", c, greatest)
	silent(t, "behind the last number, closing", c.Close(), greatest)
}

// P18.3: where it is closing the instruction that says so: at once, and each time that Wait is over, till the other side is done.
func TestSendClosing(t *testing.T) {
	c, _ := typed(t, started(t, setting()), "ab").Send(1)
	c = takes(t, "a screen", c, whole(t, 0, sender.Instr{New: 3, Ack: 1, Diff: turns("", "hi")}), 2, true)
	c = typed(t, c, "unsent").Close()
	says := sender.Instr{Old: 1, New: bye, Ack: 3, Throw: 1}
	c = sends(t, "closing", c, 100, out{first: 1, number: 2, stamp: 100, reply: 98, instr: says})
	silent(t, "it said so", c, 1099)
	c = sends(t, "again", c, 1100, out{first: 2, number: 3, stamp: 1100, reply: 1098, instr: says})
	p := wire.Part{Reply: 1100, Number: 2, Last: true, Text: sender.Instr{}.Text()}
	c = takes(t, "how long it takes", c, gram(t, 1, p), 1120, false)
	silent(t, "ahead of the wait", c, 1159)
	c = sends(t, "the wait", c, 1160, out{first: 3, number: 4, stamp: 1160, reply: 40, instr: says})
	is(t, "closing", c, true, false)
	known := takes(t, "the other side is done, and knows", c, whole(t, 2, sender.Instr{New: bye, Ack: bye}), 1161, false)
	silent(t, "both are done", known, greatest)
	heard := takes(t, "the other side heard it", c, whole(t, 2, sender.Instr{New: 1, Ack: bye}), 1161, false)
	silent(t, "the other side heard it", heard, greatest)
	c = takes(t, "the other side is done", c, whole(t, 2, sender.Instr{New: bye, Ack: 1}), 1161, false)
	is(t, "the other side is done", c, true, true)
	says.Ack = bye
	c = sends(t, "the answer", c, 1161, out{first: 4, number: 5, stamp: 1161, instr: says})
	silent(t, "answered", c, greatest)
	c = takes(t, "the other side asks again", c, whole(t, 3, sender.Instr{New: bye}), 1170, false)
	sends(t, "the answer again", c, 1170, out{first: 5, number: 6, stamp: 1170, instr: says})
}

// P18.3: a client that wasn't closing answers a Bye, and sends no keys any more.
func TestSendAnswers(t *testing.T) {
	c := takes(t, "bye", typed(t, started(t, setting()), "unsent"), whole(t, 0, sender.Instr{New: bye}), 1, false)
	c = sends(t, "the answer", c, 1, out{number: 1, stamp: 1, instr: sender.Instr{New: bye, Ack: bye}})
	silent(t, "answered", c, 500)
	silent(t, "answered", c, greatest)
}

// P18.3: at the last ticks what is due doesn't go round.
func TestSendAtTheEnds(t *testing.T) {
	c, _ := started(t, setting()).Close().Send(greatest - 10)
	silent(t, "ahead of the last tick", c, greatest-1)
	if _, datagrams := c.Send(greatest); len(datagrams) != 1 {
		t.Error("at the last tick nothing is sent")
	}
}
