package end_test

import (
	"math"
	"strings"
	"testing"

	"vagabond/api"
	"vagabond/end"
	"vagabond/receiver"
	"vagabond/seal"
	"vagabond/sender"
)

// pair: two ends of one talk, of texts that go whole, the one's the other's.
func pair(t *testing.T, room int, most uint64) (above, below end.End[string, string]) {
	t.Helper()
	box, code := seal.New("key")
	if code != api.OK {
		t.Fatal(code)
	}
	made := func(down bool) end.End[string, string] {
		out := sender.New("", sender.Rule[string]{
			Diff: func(a, b string) string { return b },
			Same: func(a, b string) bool { return a == b },
		})
		in := receiver.New("", receiver.Rule[string]{Do: func(a, d string) (string, api.Errno) { return d, api.OK }})
		return end.New(end.Setting{ID: 3, Box: box, Down: down, Room: room, Beat: 100, Most: most}, out, in)
	}
	return made(true), made(false)
}

// What the one sends the other takes, of states of any type; and not the one itself.
func TestEndsTalk(t *testing.T) {
	above, below := pair(t, 7, 1000)
	above = above.Set(strings.Repeat("state ", 20))
	above, datagrams, code := above.Send(5)
	if wanted := (32 + 120 + 6) / 7; code != api.OK || len(datagrams) != wanted {
		t.Fatalf("%d datagrams, %v, wanted %d", len(datagrams), code, wanted)
	}
	for i, text := range datagrams {
		if _, _, _, code := above.Take(text, 6); code != api.ErrDir {
			t.Errorf("its own datagram: %v", code)
		}
		next, instr, isWhole, code := below.Take(text, 6)
		if isLast := i == len(datagrams)-1; code != api.OK || isWhole != isLast {
			t.Fatalf("datagram %d: %v, %v", i, isWhole, code)
		}
		if isWhole {
			fresh := false
			next, fresh = next.Enter(instr)
			if !fresh || next.Latest() != above.Current() {
				t.Errorf("%v, %q came", fresh, next.Latest())
			}
		}
		below = next
	}
	below, datagrams, _ = below.Send(100)
	above, _, isWhole, code := above.Take(datagrams[0], 100)
	if code != api.OK || isWhole || above.First() != "" {
		t.Errorf("the first part of an answer: %v, %v, %q", isWhole, code, above.First())
	}
	for _, text := range datagrams[1:] {
		above, _, _, _ = above.Take(text, 101)
	}
	if above.First() != above.Current() {
		t.Errorf("the other side is known to have %q", above.First())
	}
}

// A state that goes into no 32 parts isn't sent, and the end is as it was.
func TestTooMuchForParts(t *testing.T) {
	above, _ := pair(t, 128, 1000)
	for _, c := range []struct {
		size   int
		wanted api.Errno
		parts  uint64
	}{{32*128 - 32, api.OK, 32}, {32*128 - 31, api.ErrMany, 0}} {
		next, datagrams, code := above.Set(strings.Repeat("a", c.size)).Send(1)
		if out, _ := next.Next(); code != c.wanted || uint64(len(datagrams)) != c.parts || out != c.parts {
			t.Errorf("%d bytes: %d datagrams, %v, then %d", c.size, len(datagrams), code, out)
		}
	}
}

// Numbers end with Most: where there aren't as many as parts the end is as it was.
func TestNumbersEnd(t *testing.T) {
	for most, wants := range map[uint64]int{0: 0, 1: 0, 2: 3, 3: 3} {
		above, _ := pair(t, 20, most)
		above = above.Set("a few more bytes")
		next, datagrams, code := above.Send(1)
		if len(datagrams) != wants || (code == api.ErrSpent) != (wants == 0) {
			t.Errorf("Most %d: %d datagrams, %v", most, len(datagrams), code)
		}
		if out, _ := next.Next(); out != uint64(wants) {
			t.Errorf("Most %d: the next number is %d", most, out)
		}
		if code != api.OK && next.Due() != 0 {
			t.Errorf("Most %d: nothing was sent, and Due is %d", most, next.Due())
		}
	}
}

// The zero one: nothing is due, nothing is sent, nothing is taken, and no call panics.
func TestZeroEnd(t *testing.T) {
	var e end.End[string, string]
	for _, e := range []end.End[string, string]{e, e.Close(), e.Set("a"), e.Ended().Owing(true).Close()} {
		if e.Due() != math.MaxUint64 || e.First() != "" || e.Latest() != "" {
			t.Errorf("Due %d, First %q, Latest %q", e.Due(), e.First(), e.Latest())
		}
		if _, datagrams, code := e.Send(math.MaxUint64); len(datagrams) != 0 || code != api.OK {
			t.Errorf("Send: %d datagrams, %v", len(datagrams), code)
		}
		box, _ := seal.New("\x00")
		if _, _, isWhole, code := e.Take(seal.Head(0, 0)+box.Seal(0, 0, strings.Repeat("\x00", 14)), 0); isWhole || code != api.ErrNone {
			t.Errorf("Take: %v, %v", isWhole, code)
		}
	}
}
