// Package end is what both ends of a talk have in common: sealed datagrams by rising numbers, the parts of instructions in them, when they go out, and how a talk ends. Layers 17 and 18 are made of it. See shared/doc/17-session.md and shared/doc/18-client.md.
package end

import (
	"math"

	"vagabond/api"
	"vagabond/clock"
	"vagabond/frag"
	"vagabond/receiver"
	"vagabond/seal"
	"vagabond/sender"
	"vagabond/wire"
	"vagabond/word"
)

const (
	// Bye is the number of the state that ends a talk.
	Bye = math.MaxUint64
	// silence is the reply where no stamp came.
	silence = math.MaxUint16
)

// Setting is what an end goes by.
type Setting struct {
	ID  api.ID
	Box seal.Box
	// Down: does what it sends go to the client?
	Down bool
	// Room is how many bytes a part's text may have, at least 1: of the zero End alone it is 0.
	Room int
	// Beat is how many ticks it is silent at most, Most the greatest number of its datagrams.
	Beat, Most uint64
}

// heard is the last stamp that came, and the tick at which it did.
type heard struct {
	any   bool
	stamp uint16
	tick  uint64
}

// said is whether an end said that it closes, and the tick at which it did last.
type said struct {
	any  bool
	tick uint64
}

// End is one end of a talk: states of the one type go out, those of the other one come in.
type End[S, R any] struct {
	set   Setting
	out   sender.Sender[S]
	in    receiver.Receiver[R]
	maker frag.Maker
	times clock.Clock
	heard heard
	said  said
	// next is the number of the next datagram, expect the least that one that comes may have, instrs how many instructions went out.
	next, expect, instrs uint64
	// done: is the other side? owes: an answer to what the other side said of its end.
	closing, done, owes bool
}

// New: an end that sent nothing, and to which nothing came.
func New[S, R any](s Setting, out sender.Sender[S], in receiver.Receiver[R]) End[S, R] {
	return End[S, R]{set: s, out: out, in: in}
}

// made: did New make it? The zero one has no states to send, and takes nothing.
func (e End[S, R]) made() bool { return e.set.Room > 0 }

// ID: its talk's.
func (e End[S, R]) ID() api.ID { return e.set.ID }

// Set: another current state.
func (e End[S, R]) Set(v S) End[S, R] {
	e.out = e.out.Set(v)
	return e
}

// Current: the state that it has now.
func (e End[S, R]) Current() S { return e.out.Current() }

// First: the state that the other side has.
func (e End[S, R]) First() S {
	if !e.made() {
		return *new(S)
	}
	return e.out.First()
}

// Latest: the last state that came.
func (e End[S, R]) Latest() R {
	_, v := e.latest()
	return v
}

// latest: the last state that came, and its number.
func (e End[S, R]) latest() (uint64, R) {
	if !e.made() {
		return 0, *new(R)
	}
	return e.in.Latest()
}

// State: is it closing, is the other side done?
func (e End[S, R]) State() (closing, done bool) { return e.closing, e.done }

// Next: the number of its next datagram, and the least of one that comes.
func (e End[S, R]) Next() (out, expect uint64) { return e.next, e.expect }

// Clock: how long there and back takes.
func (e End[S, R]) Clock() clock.Clock { return e.times }

// Close: it is closing.
func (e End[S, R]) Close() End[S, R] {
	e.closing = true
	return e
}

// Ended: the other side is done.
func (e End[S, R]) Ended() End[S, R] {
	e.done = true
	return e
}

// Owing: does it owe an answer?
func (e End[S, R]) Owing(owes bool) End[S, R] {
	e.owes = owes
	return e
}

// Take: a datagram comes; and the instruction that is whole by it, if there is one.
func (e End[S, R]) Take(text string, now uint64) (End[S, R], sender.Instr, bool, api.Errno) {
	number, part, code := e.read(text)
	if code != api.OK {
		return e, sender.Instr{}, false, code
	}
	maker, whole, isWhole, code := e.maker.Add(part)
	if code == api.ErrForm {
		return e, sender.Instr{}, false, code
	}
	e.maker, e.expect, e.heard = maker, number+1, heard{true, part.Stamp, now}
	if part.Reply != silence {
		e.times = e.times.Told(clock.Since(now, part.Reply))
	}
	if !isWhole {
		return e, sender.Instr{}, false, api.OK
	}
	instr, code := sender.Parse(whole)
	if code != api.OK {
		// Who has the key sent it: it is accepted, and says nothing.
		return e, sender.Instr{}, false, api.OK
	}
	e.out = e.out.Acked(instr.Ack)
	return e, instr, true, api.OK
}

// read: the number and the part of a datagram that may be accepted.
func (e End[S, R]) read(text string) (uint64, wire.Part, api.Errno) {
	d, code := wire.Parse(text)
	if code != api.OK {
		return 0, wire.Part{}, code
	}
	if d.ID != e.set.ID || !e.made() {
		return 0, wire.Part{}, api.ErrNone
	}
	number, down := seal.Seq(d.Nonce)
	if down == e.set.Down {
		return 0, wire.Part{}, api.ErrDir
	}
	body, code := e.set.Box.Open(d.ID, d.Nonce, d.Sealed)
	if code != api.OK {
		return 0, wire.Part{}, code
	}
	// Asked only of what was opened, so that nobody else learns what is expected.
	if number < e.expect {
		return 0, wire.Part{}, api.ErrStale
	}
	part, code := wire.Read(body)
	return number, part, code
}

// Enter: an instruction's state comes in; whether it is the last one then.
func (e End[S, R]) Enter(i sender.Instr) (End[S, R], bool) {
	in, isLast, _ := e.in.Take(i)
	e.in = in
	return e, isLast
}

// farewell: from when on it says that it closes, if it does so (again).
func (e End[S, R]) farewell() (uint64, bool) {
	switch {
	case e.owes:
		return 0, true
	case e.done:
		return 0, false
	case !e.said.any:
		return 0, true
	default:
		return word.Add(e.said.tick, e.times.Wait()), true
	}
}

// Due: the first tick from which on Send has something, if nothing comes; the greatest one, if it never has.
func (e End[S, R]) Due() uint64 {
	if !e.made() {
		return math.MaxUint64
	}
	if !e.closing {
		return e.out.Due(e.times.Wait(), e.set.Beat)
	}
	at, due := e.farewell()
	if !due {
		return math.MaxUint64
	}
	return at
}

// Send: what is due, in datagrams; ErrSpent, and as it was, where there are no numbers for it.
func (e End[S, R]) Send(now uint64) (End[S, R], []string, api.Errno) {
	if !e.made() {
		return e, nil, api.OK
	}
	if e.next > e.set.Most {
		return e, nil, api.ErrSpent
	}
	next, instr, due := e.instr(now)
	if !due {
		return e, nil, api.OK
	}
	next, datagrams, code := next.packed(instr, now)
	if code != api.OK {
		return e, nil, code
	}
	return next, datagrams, api.OK
}

// instr: the instruction that is due.
func (e End[S, R]) instr(now uint64) (End[S, R], sender.Instr, bool) {
	latest, _ := e.latest()
	if !e.closing {
		out, instr, due := e.out.Next(now, e.times.Wait(), e.set.Beat, latest)
		e.out = out
		return e, instr, due
	}
	at, due := e.farewell()
	if !due || now < at {
		return e, sender.Instr{}, false
	}
	if e.done {
		latest = Bye
	}
	e.owes, e.said = false, said{true, now}
	base := e.out.Numbers()[0]
	return e, sender.Instr{Old: base, New: Bye, Ack: latest, Throw: base}, true
}

// packed: an instruction's datagrams, each with the next number.
func (e End[S, R]) packed(i sender.Instr, now uint64) (End[S, R], []string, api.Errno) {
	e.instrs++
	parts, code := frag.Split(e.instrs, i.Text(), e.set.Room)
	if code != api.OK {
		return e, nil, code
	}
	if uint64(len(parts)-1) > e.set.Most-e.next {
		return e, nil, api.ErrSpent
	}
	datagrams := make([]string, len(parts))
	for at, part := range parts {
		part.Stamp, part.Reply = clock.Stamp(now), e.reply(now)
		datagrams[at] = e.datagram(part)
		e.next++
	}
	return e, datagrams, api.OK
}

// reply: the last stamp that came, as old as it is.
func (e End[S, R]) reply(now uint64) uint16 {
	if !e.heard.any {
		return silence
	}
	return e.heard.stamp + uint16(clock.Since(now, clock.Stamp(e.heard.tick)))
}

// datagram: a part's, of the next number.
func (e End[S, R]) datagram(p wire.Part) string {
	// No error can come of these: Split's parts have indexes and lengths that may be, and the number isn't above Most.
	body, _ := p.Bytes()
	nonce, _ := seal.Nonce(e.next, e.set.Down)
	text, _ := wire.Datagram{ID: e.set.ID, Nonce: nonce, Sealed: e.set.Box.Seal(e.set.ID, nonce, body)}.Bytes()
	return text
}
