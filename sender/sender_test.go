package sender_test

import (
	"fmt"
	"math"
	"slices"
	"strings"
	"testing"
	"unsafe"

	"vagabond/api"
	"vagabond/sender"
)

const greatest = math.MaxUint64

// shown: a rule whose diffs show what they were asked of.
func shown() sender.Rule[string] {
	return sender.Rule[string]{
		Diff: func(a, b string) string { return a + ">" + b },
		Same: func(a, b string) bool { return a == b },
	}
}

// grown: a sender whose states go out one a tick, from tick 1 on, the first one being the first text.
func grown(t *testing.T, texts ...string) sender.Sender[string] {
	t.Helper()
	s := sender.New(texts[0], shown())
	for i, text := range texts[1:] {
		next, instr, ok := s.Set(text).Next(uint64(i+1), greatest, greatest, 0)
		if !ok || instr.New != uint64(i+1) {
			t.Fatalf("%q doesn't go out: %v, %v", text, instr, ok)
		}
		s = next
	}
	return s
}

// holds: a sender has those numbers, that first state, and that current one.
func holds(t *testing.T, what string, s sender.Sender[string], numbers []uint64, first, current string) {
	t.Helper()
	if got := s.Numbers(); !slices.Equal(got, numbers) {
		t.Errorf("%s: Numbers %v, wanted %v", what, got, numbers)
	}
	if got := s.First(); got != first {
		t.Errorf("%s: First %q, wanted %q", what, got, first)
	}
	if got := s.Current(); got != current {
		t.Errorf("%s: Current %q, wanted %q", what, got, current)
	}
	if got, wanted := s.Quiet(), len(numbers) == 1 && first == current; got != wanted {
		t.Errorf("%s: Quiet %v, wanted %v", what, got, wanted)
	}
}

// sends: Next has that instruction.
func sends(t *testing.T, what string, s sender.Sender[string], now, wait, beat, ack uint64, wanted sender.Instr) sender.Sender[string] {
	t.Helper()
	next, got, ok := s.Next(now, wait, beat, ack)
	if !ok || got != wanted {
		t.Errorf("%s: Next at %d: %v, %v, wanted %v", what, now, got, ok, wanted)
	}
	return next
}

// silent: Next has none, and the sender is as it was.
func silent(t *testing.T, what string, s sender.Sender[string], now, wait, beat uint64) {
	t.Helper()
	next, got, ok := s.Next(now, wait, beat, 9)
	if ok || got != (sender.Instr{}) {
		t.Errorf("%s: Next at %d: %v, %v, wanted none", what, now, got, ok)
	}
	if !slices.Equal(next.Numbers(), s.Numbers()) || next.First() != s.First() || next.Current() != s.Current() || next.Due(wait, beat) != s.Due(wait, beat) {
		t.Errorf("%s: Next at %d has none, and changes the sender", what, now)
	}
}

// bytesOf: what a text's bytes are in memory.
func bytesOf(s string) *byte { return unsafe.StringData(s) }

// instrs: instructions and their texts.
func instrs() map[string]sender.Instr {
	nought := strings.Repeat("\x00", 8)
	full := strings.Repeat("\xff", 8)
	last := func(b string) string { return nought[1:] + b }
	return map[string]sender.Instr{
		nought + nought + nought + nought:                                                                                            {},
		last("\x01") + last("\x02") + last("\x03") + last("\x04") + "diff":                                                           {Old: 1, New: 2, Ack: 3, Throw: 4, Diff: "diff"},
		"\x01\x02\x03\x04\x05\x06\x07\x08" + nought + full + "\x80" + nought[1:] + "\x00\xff":                                        {Old: 0x0102030405060708, Ack: greatest, Throw: 1 << 63, Diff: "\x00\xff"},
		full + full + full + full + full:                                                                                             {Old: greatest, New: greatest, Ack: greatest, Throw: greatest, Diff: full},
		nought[2:] + "\x01\x00" + "\xff" + nought[1:] + nought[4:] + "\x01\x00\x00\x00" + last("\xfe") + strings.Repeat("long", 500): {Old: 256, New: 0xff << 56, Ack: 1 << 24, Throw: 254, Diff: strings.Repeat("long", 500)},
	}
}

// P15.1: four numbers of eight bytes each, the diff.
func TestText(t *testing.T) {
	for text, instr := range instrs() {
		if got := instr.Text(); got != text {
			t.Errorf("Text of %v: %x, wanted %x", instr, got, text)
		}
		if got, code := sender.Parse(text); got != instr || code != api.OK {
			t.Errorf("Parse of %x: %v, %v, wanted %v", text, got, code, instr)
		}
	}
}

// P15.1: ErrShort, where there are fewer than 32 bytes.
func TestParseShort(t *testing.T) {
	long := strings.Repeat("\x01", 33)
	for n := range 32 {
		if got, code := sender.Parse(long[:n]); got != (sender.Instr{}) || code != api.ErrShort {
			t.Errorf("Parse of %d bytes: %v, %v", n, got, code)
		}
	}
	ones := uint64(0x0101010101010101)
	for n := 32; n <= 33; n++ {
		wanted := sender.Instr{Old: ones, New: ones, Ack: ones, Throw: ones, Diff: long[32:n]}
		if got, code := sender.Parse(long[:n]); got != wanted || code != api.OK {
			t.Errorf("Parse of %d bytes: %v, %v", n, got, code)
		}
	}
}

// P15.1: what is told shares no memory with what was handed in.
func TestTextsAreNew(t *testing.T) {
	text := strings.Repeat("a", 40)
	instr, _ := sender.Parse(text)
	if bytesOf(instr.Diff) == bytesOf(text[32:]) {
		t.Error("Parse's diff is the text's memory")
	}
	if bytesOf(instr.Text()[32:]) == bytesOf(instr.Diff) {
		t.Error("Text is the diff's memory")
	}
}

// P15.2: the first one is current, and has the number 0, sent at tick 0; Last is 0.
func TestNew(t *testing.T) {
	s := sender.New("a", shown())
	holds(t, "new", s, []uint64{0}, "a", "a")
	for _, beat := range []uint64{0, 1, 100, greatest} {
		if got := s.Due(0, beat); got != beat {
			t.Errorf("Due of a beat of %d: %d", beat, got)
		}
	}
	silent(t, "new", s, 99, 0, 100)
	sends(t, "new", s, 100, 0, 100, 5, sender.Instr{Ack: 5, Diff: "a>a"})
	sends(t, "new, no beat", s, 0, 0, 0, 0, sender.Instr{Diff: "a>a"})
}

// P15.2: Set's state is the current one, without a number.
func TestSet(t *testing.T) {
	s := sender.New("a", shown())
	b := s.Set("b")
	holds(t, "set", b, []uint64{0}, "a", "b")
	holds(t, "set again", b.Set("c"), []uint64{0}, "a", "c")
	holds(t, "set back", b.Set("a"), []uint64{0}, "a", "a")
	holds(t, "as it was", s, []uint64{0}, "a", "a")
	holds(t, "as the second was", b, []uint64{0}, "a", "b")
}

// P15.2: Quiet is by the rule's Same, of the current state and the one that there is, and not while there are others.
func TestQuiet(t *testing.T) {
	rule := shown()
	rule.Same = func(a, b string) bool { return strings.EqualFold(a, b) }
	s := sender.New("a", rule)
	if !s.Set("A").Quiet() || s.Set("A").Current() != "A" || s.Set("A").First() != "a" {
		t.Error("one that is Same isn't quiet")
	}
	if s.Set("b").Quiet() {
		t.Error("one that isn't Same is quiet")
	}
	two := grown(t, "a", "b")
	if two.Quiet() || two.Set("a").Quiet() {
		t.Error("two states are quiet")
	}
	if !two.Acked(1).Quiet() || two.Acked(1).Set("a").Quiet() || !two.Acked(1).Set("a").Set("b").Quiet() {
		t.Error("Quiet isn't by the first state")
	}
}

// P15.2: Acked lets go those ahead of the one of that number, if it is there.
func TestAcked(t *testing.T) {
	texts := []string{"a", "b", "c", "d", "e"}
	s := grown(t, texts...)
	all := []uint64{0, 1, 2, 3, 4}
	for n := range uint64(5) {
		holds(t, fmt.Sprint("acked ", n), s.Acked(n), all[n:], texts[n], "e")
		for m := range uint64(8) {
			first := n
			if m > n && m < 5 {
				first = m
			}
			holds(t, fmt.Sprint("acked ", n, " and ", m), s.Acked(n).Acked(m), all[first:], texts[first], "e")
		}
	}
	for _, n := range []uint64{5, 6, 8, 256, 1 << 32, 1 << 63, greatest} {
		holds(t, fmt.Sprint("acked ", n), s.Acked(n), all, "a", "e")
		holds(t, fmt.Sprint("new, acked ", n), sender.New("a", shown()).Acked(n), []uint64{0}, "a", "a")
	}
	holds(t, "as it was", s, all, "a", "e")
}

// P15.2: what Numbers answers is nobody else's.
func TestNumbersAreNew(t *testing.T) {
	s := grown(t, "a", "b", "c")
	got := s.Numbers()
	got[0], got[1] = 7, 8
	holds(t, "as it was", s, []uint64{0, 1, 2}, "a", "c")
}

// P15.3: a current state that isn't Same goes out at once, from the base, and asks to keep the base.
func TestNextOfNewState(t *testing.T) {
	s := grown(t, "a", "b", "c").Set("d")
	for _, now := range []uint64{0, 1, 2, 100, greatest} {
		next := sends(t, "new state", s, now, greatest, greatest, 77, sender.Instr{Old: 0, New: 3, Ack: 77, Throw: 0, Diff: "a>d"})
		holds(t, "behind it", next, []uint64{0, 1, 2, 3}, "a", "d")
	}
	sends(t, "from a later base", s.Acked(1), 5, greatest, greatest, greatest, sender.Instr{Old: 1, New: 3, Ack: greatest, Throw: 1, Diff: "b>d"})
	sends(t, "from the newest", s.Acked(2), 5, greatest, greatest, 0, sender.Instr{Old: 2, New: 3, Throw: 2, Diff: "c>d"})
	sends(t, "back to the base", s.Set("a"), 5, greatest, greatest, 0, sender.Instr{Old: 0, New: 3, Diff: "a>a"})
	holds(t, "as it was", s, []uint64{0, 1, 2}, "a", "d")
}

// P15.3: what isn't Same is asked by the rule, of the current state and the newest; the diff is the rule's, of the base and the newest.
func TestNextAsksTheRule(t *testing.T) {
	var asked []string
	rule := sender.Rule[string]{
		Diff: func(a, b string) string { return "diff of " + a + " and " + b },
		Same: func(a, b string) bool {
			asked = append(asked, a+b)
			return strings.EqualFold(a, b)
		},
	}
	s, instr, ok := sender.New("a", rule).Set("b").Next(1, 5, greatest, 0)
	if !ok || instr.Diff != "diff of a and b" {
		t.Errorf("Next: %v, %v", instr, ok)
	}
	s = s.Set("B")
	if got := s.Due(5, greatest); got != 6 {
		t.Errorf("Due of one that is Same: %d", got)
	}
	s, instr, ok = s.Next(6, 5, greatest, 0)
	if !ok || instr != (sender.Instr{New: 1, Diff: "diff of a and b"}) || s.Current() != "B" {
		t.Errorf("Next of one that is Same: %v, %v", instr, ok)
	}
	if len(asked) == 0 || slices.ContainsFunc(asked, func(pair string) bool { return pair != "ba" && pair != "Bb" }) {
		t.Errorf("Same was asked of %v", asked)
	}
}

// P15.3: where the newest isn't the base, it goes out again when it was waited for it.
func TestNextAgain(t *testing.T) {
	s := grown(t, "a", "b", "c")
	wanted := sender.Instr{Old: 0, New: 2, Ack: 4, Throw: 0, Diff: "a>c"}
	if got := s.Due(10, greatest); got != 12 {
		t.Errorf("Due: %d", got)
	}
	silent(t, "ahead of it", s, 11, 10, greatest)
	for _, now := range []uint64{12, 13, greatest} {
		next := sends(t, "again", s, now, 10, greatest, 4, wanted)
		holds(t, "again", next, []uint64{0, 1, 2}, "a", "c")
	}
	next := sends(t, "again", s, 20, 10, greatest, 4, wanted)
	if got := next.Due(10, greatest); got != 30 {
		t.Errorf("Due behind it: %d", got)
	}
	silent(t, "behind it", next, 29, 10, greatest)
	sends(t, "once more", next, 30, 10, greatest, 4, wanted)
	if got := s.Due(10, greatest); got != 12 {
		t.Errorf("Due of the sender that it came of: %d", got)
	}
	sends(t, "no wait", s, 2, 0, greatest, 4, wanted)
	silent(t, "no wait, an earlier tick", s, 1, 0, greatest)
}

// P15.3: by the beat, from the tick at which anything was sent, the newest goes out too, from the base to itself where it is the base.
func TestNextByBeat(t *testing.T) {
	s := grown(t, "a", "b", "c")
	wanted := sender.Instr{Old: 0, New: 2, Ack: 4, Throw: 0, Diff: "a>c"}
	if got := s.Due(greatest, 10); got != 12 {
		t.Errorf("Due: %d", got)
	}
	silent(t, "ahead of it", s, 11, greatest, 10)
	next := sends(t, "beat", s, 15, greatest, 10, 4, wanted)
	if got := next.Due(greatest, 10); got != 25 {
		t.Errorf("Due behind it: %d", got)
	}
	if got := next.Due(7, 10); got != 22 {
		t.Errorf("Due, waited for: %d: the beat's sending counts", got)
	}

	alone := s.Acked(2)
	if got := alone.Due(0, 10); got != 12 {
		t.Errorf("Due of one alone: %d", got)
	}
	silent(t, "alone", alone, 11, 0, 10)
	next = sends(t, "alone", alone, 12, 0, 10, 6, sender.Instr{Old: 2, New: 2, Ack: 6, Throw: 2, Diff: "c>c"})
	holds(t, "alone", next, []uint64{2}, "c", "c")
	if got := next.Due(0, 10); got != 22 {
		t.Errorf("Due behind it: %d", got)
	}
}

// P15.3: Due is the lesser one of the beat's tick and the wait's.
func TestDueIsTheLesser(t *testing.T) {
	s := grown(t, "a", "b", "c")
	for _, c := range []struct{ wait, beat, wanted uint64 }{
		{0, 0, 2}, {3, 4, 5}, {4, 3, 5}, {0, greatest, 2}, {greatest, 0, 2}, {greatest, greatest, greatest},
		{greatest - 2, greatest, greatest}, {greatest - 3, greatest, greatest - 1}, {greatest, greatest - 3, greatest - 1},
	} {
		if got := s.Due(c.wait, c.beat); got != c.wanted {
			t.Errorf("Due(%d, %d): %d, wanted %d", c.wait, c.beat, got, c.wanted)
		}
		if got := s.Set("d").Due(c.wait, c.beat); got != 0 {
			t.Errorf("Due(%d, %d) with a new state: %d", c.wait, c.beat, got)
		}
	}
}

// P15.3: sums of ticks don't go round: at the greatest tick it is due.
func TestTicksDontGoRound(t *testing.T) {
	s := sends(t, "late", sender.New("a", shown()).Set("b"), greatest-5, 0, 0, 0, sender.Instr{New: 1, Diff: "a>b"})
	for _, long := range []uint64{6, 7, 1 << 63, greatest} {
		if got := s.Due(long, long); got != greatest {
			t.Errorf("Due of %d: %d", long, got)
		}
		silent(t, "late", s, 0, long, long)
		silent(t, "late", s, greatest-1, long, long)
		sends(t, "at the end", s, greatest, long, long, 0, sender.Instr{New: 1, Diff: "a>b"})
	}
	if got := s.Due(5, greatest); got != greatest {
		t.Errorf("Due of 5: %d", got)
	}
	if got := s.Due(greatest, 4); got != greatest-1 {
		t.Errorf("Due of a beat of 4: %d", got)
	}
}

// P15.3: there are 8 states at most: what is current then waits, till one is let go.
func TestNextOfEight(t *testing.T) {
	texts := []string{"a", "b", "c", "d", "e", "f", "g", "h"}
	all := []uint64{0, 1, 2, 3, 4, 5, 6, 7}
	seven := grown(t, texts[:7]...).Set("h")
	if got := seven.Due(100, 100); got != 0 {
		t.Errorf("Due of seven: %d", got)
	}
	s := grown(t, texts...).Set("i")
	holds(t, "eight", s, all, "a", "i")
	if got := s.Due(10, 100); got != 17 {
		t.Errorf("Due of eight: %d", got)
	}
	silent(t, "eight", s, 16, 10, 100)
	next := sends(t, "eight", s, 17, 10, 100, 1, sender.Instr{New: 7, Ack: 1, Diff: "a>h"})
	holds(t, "eight, sent again", next, all, "a", "i")
	sends(t, "eight, by the beat", s, 107, greatest, 100, 1, sender.Instr{New: 7, Ack: 1, Diff: "a>h"})
	holds(t, "acked what isn't there", next.Acked(8), all, "a", "i")
	if got := next.Acked(0).Due(10, 100); got != 27 {
		t.Errorf("Due, acked the base: %d", got)
	}
	freed := next.Acked(1)
	if got := freed.Due(10, 100); got != 0 {
		t.Errorf("Due of one let go: %d", got)
	}
	last := sends(t, "one let go", freed, 18, 10, 100, 2, sender.Instr{Old: 1, New: 8, Ack: 2, Throw: 1, Diff: "b>i"})
	holds(t, "one let go", last, []uint64{1, 2, 3, 4, 5, 6, 7, 8}, "b", "i")
	holds(t, "as it was", next, all, "a", "i")
}

// P15.3: two senders that come of one don't meet: neither has what the other was behind.
func TestSendersStayAsTheyWere(t *testing.T) {
	s := grown(t, "a", "b", "c")
	left := sends(t, "left", s.Set("l"), 5, 10, 100, 0, sender.Instr{New: 3, Diff: "a>l"})
	right := sends(t, "right", s.Set("r"), 6, 10, 100, 0, sender.Instr{New: 3, Diff: "a>r"})
	leftmost := sends(t, "left again", left.Acked(1).Set("m"), 7, 10, 100, 0, sender.Instr{Old: 1, New: 4, Throw: 1, Diff: "b>m"})
	sends(t, "right again", right.Acked(1).Set("s"), 8, 10, 100, 0, sender.Instr{Old: 1, New: 4, Throw: 1, Diff: "b>s"})
	if got := left.Acked(3).First() + right.Acked(3).First() + leftmost.Acked(4).First(); got != "lrm" {
		t.Errorf("states: %s", got)
	}
	if a, b, c := s.Due(10, 100), left.Due(10, 100), right.Due(10, 100); a != 12 || b != 15 || c != 16 {
		t.Errorf("Due: %d, %d, %d", a, b, c)
	}
	holds(t, "as it was", s, []uint64{0, 1, 2}, "a", "c")
}

// P15.3: a diff is new memory, though the rule answers the state itself.
func TestDiffIsNew(t *testing.T) {
	rule := shown()
	rule.Diff = func(a, b string) string { return b }
	state := strings.Repeat("b", 40)
	_, instr, ok := sender.New("a", rule).Set(state).Next(1, 0, 0, 0)
	if !ok || instr.Diff != state {
		t.Fatalf("Next: %v, %v", instr, ok)
	}
	if bytesOf(instr.Diff) == bytesOf(state) {
		t.Error("the diff is the state's memory")
	}
}

// P15.3: states are of whatever type.
func TestOfNumbers(t *testing.T) {
	rule := sender.Rule[int]{
		Diff: func(a, b int) string { return fmt.Sprint(b - a) },
		Same: func(a, b int) bool { return a == b },
	}
	s, instr, ok := sender.New(5, rule).Set(9).Next(3, 10, 100, 1)
	if !ok || instr != (sender.Instr{New: 1, Ack: 1, Diff: "4"}) || s.First() != 5 || s.Current() != 9 {
		t.Errorf("Next: %v, %v", instr, ok)
	}
}
