package session_test

import (
	"math/rand"
	"slices"
	"testing"

	"vagabond/api"
	"vagabond/sender"
	"vagabond/session"
	"vagabond/wire"
)

// rival: a datagram that may be true, stale, doubled, or forged; of a peer that was sent states up to a number.
func rival(t *testing.T, r *rand.Rand, came []string, highest, sent uint64) string {
	t.Helper()
	i := sender.Instr{Old: uint64(r.Intn(3)), New: uint64(r.Intn(9)), Ack: sent - min(sent, uint64(r.Intn(9))), Throw: uint64(r.Intn(3)), Diff: "k"}
	number := highest + uint64(r.Intn(4))
	p := wire.Part{Stamp: uint16(r.Intn(1 << 16)), Reply: mute, Number: number + 1, Last: true, Text: i.Text()}
	text := gram(t, number, p)
	switch r.Intn(9) {
	case 0, 1:
		return came[r.Intn(len(came))]
	case 2:
		turned := []byte(text)
		turned[r.Intn(len(turned))] ^= 1 << r.Intn(8)
		return string(turned)
	case 3:
		return text[:r.Intn(len(text))]
	case 4:
		return gram(t, uint64(r.Intn(int(highest)+1)), p)
	}
	return text
}

// P17.4: only what is accepted changes anything; the peer's address is that of the accepted datagram with the greatest number; no number is used twice.
func TestWhatFollows(t *testing.T) {
	r := rand.New(rand.NewSource(174))
	set := setting()
	set.Beat = 20
	s := met(t, set)
	came := []string{whole(t, 0, sender.Instr{})}
	highest, states, peer := uint64(0), uint64(0), home
	var numbers []uint64
	refused := 0
	for now := range uint64(4000) {
		at := api.Addr{Host: uint32(r.Intn(3)), Port: uint16(r.Intn(2))}
		text := rival(t, r, came, highest, states)
		before := shows(s)
		next, told, code := s.Take(at, text, now)
		if code != api.OK {
			refused++
			if shows(next) != before || told != (session.Told{}) {
				t.Fatalf("%v, and it is another one", code)
			}
		} else {
			d, _ := wire.Parse(text)
			if d.Nonce <= highest || slices.Contains(came, text) {
				t.Fatalf("number %d behind %d", d.Nonce, highest)
			}
			if told.Moved != (at != peer) {
				t.Errorf("from %v to %v: %v", peer, at, told)
			}
			highest, peer, came = d.Nonce, at, append(came, text)
		}
		s = next
		if got, known := s.Peer(); got != peer || !known {
			t.Fatalf("the peer is %v, wanted %v", got, peer)
		}
		if r.Intn(4) == 0 {
			s, _ = s.Write(string(rune('a' + r.Intn(26))))
		}
		sent, datagrams, _ := s.Send(now)
		for _, text := range datagrams {
			number, _ := opened(t, text)
			numbers = append(numbers, number)
			states = outOf(t, datagrams, 128).instr.New
		}
		s = sent
	}
	for i, number := range numbers {
		if number != uint64(i) {
			t.Fatalf("the datagram at place %d has the number %d", i, number)
		}
	}
	if refused < 500 || len(came) < 500 || len(numbers) < 500 {
		t.Errorf("%d refused, %d accepted, %d sent", refused, len(came), len(numbers))
	}
}
