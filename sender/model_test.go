package sender_test

import (
	"fmt"
	"math/rand"
	"testing"

	"vagabond/sender"
)

// model is a sender as the document tells it: all that ever went out, of which those from base on are there.
type model struct {
	base    int
	current string
	texts   []string
	ticks   []uint64
	last    uint64
}

// newest: the number of the last state.
func (m *model) newest() int { return len(m.texts) - 1 }

// new: is there a state to be sent, and room for it?
func (m *model) new() bool { return m.current != m.texts[m.newest()] && m.newest()-m.base < 7 }

// next: what goes out at a tick.
func (m *model) next(now, wait, beat, ack uint64) (sender.Instr, bool) {
	switch {
	case m.new():
		m.texts, m.ticks = append(m.texts, m.current), append(m.ticks, now)
	case m.newest() != m.base && now >= m.ticks[m.newest()]+wait, now >= m.last+beat:
		m.ticks[m.newest()] = now
	default:
		return sender.Instr{}, false
	}
	m.last = now
	base, newest := uint64(m.base), uint64(m.newest())
	return sender.Instr{Old: base, New: newest, Ack: ack, Throw: base, Diff: m.texts[base] + ">" + m.texts[newest]}, true
}

// numbers: of the states that are there.
func (m *model) numbers() []uint64 {
	var out []uint64
	for n := m.base; n <= m.newest(); n++ {
		out = append(out, uint64(n))
	}
	return out
}

// P15.2 and P15.3: whatever is asked of a sender, in whatever order.
func TestWhateverIsAsked(t *testing.T) {
	r := rand.New(rand.NewSource(15))
	for round := range 200 {
		s, m := sender.New("a", shown()), &model{current: "a", texts: []string{"a"}, ticks: []uint64{0}}
		now := uint64(0)
		for step := range 200 {
			now += uint64(r.Intn(4))
			switch r.Intn(4) {
			case 0:
				m.current = string(rune('a' + r.Intn(4)))
				s = s.Set(m.current)
			case 1:
				n := r.Intn(len(m.texts) + 3)
				s = s.Acked(uint64(n))
				if n >= m.base && n <= m.newest() {
					m.base = n
				}
			default:
				wait, beat, ack := uint64(r.Intn(9)), uint64(r.Intn(20)), r.Uint64()
				wanted, due := m.next(now, wait, beat, ack)
				if !due {
					silent(t, "model", s, now, wait, beat)
					break
				}
				s = sends(t, "model", s, now, wait, beat, ack, wanted)
			}
			holds(t, fmt.Sprint("round ", round, ", step ", step), s, m.numbers(), m.texts[m.base], m.current)
			if t.Failed() {
				return
			}
		}
	}
}

// P15.3: Due is the first tick from which on Next has an instruction.
func TestDueIsTheFirst(t *testing.T) {
	r := rand.New(rand.NewSource(153))
	s := sender.New("a", shown())
	now := uint64(0)
	for range 5000 {
		now += uint64(r.Intn(4))
		switch r.Intn(3) {
		case 0:
			s = s.Set(string(rune('a' + r.Intn(3))))
		case 1:
			numbers := s.Numbers()
			s = s.Acked(numbers[r.Intn(len(numbers))])
		}
		wait, beat := uint64(r.Intn(9)), uint64(r.Intn(20))
		due := s.Due(wait, beat)
		if _, _, ok := s.Next(due, wait, beat, 0); !ok {
			t.Fatalf("at %d, when it is due, there is none", due)
		}
		if _, _, ok := s.Next(due+uint64(r.Intn(99)), wait, beat, 0); !ok {
			t.Fatalf("behind %d there is none", due)
		}
		if due > 0 {
			silent(t, "ahead of due", s, due-1, wait, beat)
		}
		if next, _, ok := s.Next(now, wait, beat, 0); ok {
			s = next
		}
		if t.Failed() {
			return
		}
	}
}

// P15.4: numbers rise by one; the base falls behind only by Acked; from the base and the diff comes the state.
func TestWhatFollows(t *testing.T) {
	r := rand.New(rand.NewSource(154))
	rule := sender.Rule[int]{
		Diff: func(a, b int) string { return fmt.Sprint(b - a) },
		Same: func(a, b int) bool { return a == b },
	}
	s := sender.New(0, rule)
	values := map[uint64]int{0: 0}
	newest := uint64(0)
	for now := range uint64(5000) {
		base := s.Numbers()[0]
		s = s.Set(r.Intn(50))
		next, i, ok := s.Next(now, 3, 7, 0)
		if !ok {
			continue
		}
		s = next
		if i.Old != base || i.Throw != base || s.Numbers()[0] != base {
			t.Fatalf("the base was %d: %v, %v", base, i, s.Numbers())
		}
		if i.New > newest+1 || i.New < newest {
			t.Fatalf("behind %d comes %d", newest, i.New)
		}
		if i.New == newest+1 {
			values[i.New] = s.Current()
		}
		newest = i.New
		var change int
		fmt.Sscan(i.Diff, &change)
		if values[base]+change != values[i.New] {
			t.Fatalf("from %d by %s: not %d", values[base], i.Diff, values[i.New])
		}
		if r.Intn(4) == 0 {
			n := base + uint64(r.Intn(9))
			before := s.Numbers()
			s = s.Acked(n)
			if wanted := max(min(n, newest), base); n <= newest && (s.Numbers()[0] != wanted || s.First() != values[wanted]) {
				t.Fatalf("Acked(%d) of %v: %v", n, before, s.Numbers())
			}
		}
	}
	if newest < 1000 {
		t.Errorf("only %d states went out", newest)
	}
}
