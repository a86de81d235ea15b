package receiver_test

import (
	"fmt"
	"math"
	"slices"
	"strings"
	"testing"
	"unsafe"

	"vagabond/api"
	"vagabond/receiver"
	"vagabond/sender"
)

const greatest = math.MaxUint64

// behind: a rule that puts a diff behind a state; a diff of "!" is an error, beside which there is a state all the same.
func behind() receiver.Rule[string] {
	return receiver.Rule[string]{Do: func(a, d string) (string, api.Errno) {
		if d == "!" {
			return "wrong", api.ErrArg
		}
		return a + d, api.OK
	}}
}

// with: a receiver that took instructions of those numbers, each from the first state, "a", by its own number.
func with(t *testing.T, numbers ...uint64) receiver.Receiver[string] {
	t.Helper()
	x := receiver.New("a", behind())
	for _, n := range numbers {
		next, _, code := x.Take(sender.Instr{New: n, Diff: fmt.Sprint(n)})
		if code != api.OK {
			t.Fatalf("Take of %d: %v", n, code)
		}
		x = next
	}
	return x
}

// named: the states that with makes of those numbers.
func named(numbers ...uint64) map[uint64]string {
	states := map[uint64]string{}
	for _, n := range numbers {
		states[n] = fmt.Sprint("a", n)
		if n == 0 {
			states[n] = "a"
		}
	}
	return states
}

// holds: a receiver has those states, and no others.
func holds(t *testing.T, what string, x receiver.Receiver[string], states map[uint64]string) {
	t.Helper()
	var numbers []uint64
	for n := range states {
		numbers = append(numbers, n)
	}
	slices.Sort(numbers)
	if got := x.Numbers(); !slices.Equal(got, numbers) {
		t.Errorf("%s: Numbers %v, wanted %v", what, got, numbers)
		return
	}
	last := numbers[len(numbers)-1]
	if n, v := x.Latest(); n != last || v != states[last] {
		t.Errorf("%s: Latest %d, %q, wanted %d, %q", what, n, v, last, states[last])
	}
	asked := []uint64{0, 1, 7, 8, 1 << 32, 1 << 63, greatest - 1, greatest}
	for _, n := range numbers {
		asked = append(asked, n-1, n, n+1)
	}
	for _, n := range asked {
		wanted, there := states[n]
		if v, ok := x.Of(n); v != wanted || ok != there {
			t.Errorf("%s: Of(%d): %q, %v, wanted %q, %v", what, n, v, ok, wanted, there)
		}
	}
}

// refuses: Take has that error, and the receiver is as it was.
func refuses(t *testing.T, what string, x receiver.Receiver[string], i sender.Instr, wanted api.Errno, states map[uint64]string) {
	t.Helper()
	next, last, code := x.Take(i)
	if code != wanted || last {
		t.Errorf("%s: Take of %v: %v, %v, wanted %v", what, i, last, code, wanted)
	}
	holds(t, what+", beside an error", next, states)
	holds(t, what+", as it was", x, states)
}

// takes: Take is OK.
func takes(t *testing.T, what string, x receiver.Receiver[string], i sender.Instr, isLast bool) receiver.Receiver[string] {
	t.Helper()
	next, last, code := x.Take(i)
	if code != api.OK || last != isLast {
		t.Errorf("%s: Take of %v: %v, %v, wanted %v", what, i, last, code, isLast)
	}
	return next
}

// P16.1: the first one has the number 0.
func TestNew(t *testing.T) {
	holds(t, "new", receiver.New("a", behind()), map[uint64]string{0: "a"})
	holds(t, "new, of nothing", receiver.New("", behind()), map[uint64]string{0: ""})
}

// P16.1: what Numbers answers is nobody else's.
func TestNumbersAreNew(t *testing.T) {
	x := with(t, 1, 2)
	got := x.Numbers()
	got[0], got[1] = 7, 8
	holds(t, "as it was", x, named(0, 1, 2))
}

// P16.1: states are of whatever type; Of a number that isn't there is the zero value.
func TestOfNumbers(t *testing.T) {
	rule := receiver.Rule[int]{Do: func(a int, d string) (int, api.Errno) { return a + len(d), api.OK }}
	x, last, code := receiver.New(5, rule).Take(sender.Instr{New: 3, Diff: "xx"})
	if !last || code != api.OK {
		t.Errorf("Take: %v, %v", last, code)
	}
	if n, v := x.Latest(); n != 3 || v != 7 {
		t.Errorf("Latest: %d, %d", n, v)
	}
	if v, ok := x.Of(2); v != 0 || ok {
		t.Errorf("Of one that isn't there: %d, %v", v, ok)
	}
}

// P16.2: a state is made of the one of Old, and stands where its number does, whatever comes first.
func TestTake(t *testing.T) {
	x := receiver.New("a", behind())
	one := takes(t, "first", x, sender.Instr{New: 1, Diff: "b"}, true)
	holds(t, "first", one, map[uint64]string{0: "a", 1: "ab"})
	far := takes(t, "far", one, sender.Instr{Old: 1, New: 9, Diff: "c"}, true)
	holds(t, "far", far, map[uint64]string{0: "a", 1: "ab", 9: "abc"})
	between := takes(t, "between", far, sender.Instr{Old: 0, New: 5, Diff: "d"}, false)
	holds(t, "between", between, map[uint64]string{0: "a", 1: "ab", 5: "ad", 9: "abc"})
	of := takes(t, "of one between", between, sender.Instr{Old: 5, New: 8}, false)
	holds(t, "of one between", of, map[uint64]string{0: "a", 1: "ab", 5: "ad", 8: "ad", 9: "abc"})
	end := takes(t, "to the end", of, sender.Instr{Old: 8, New: greatest, Ack: 6, Diff: "e"}, true)
	holds(t, "to the end", end, map[uint64]string{0: "a", 1: "ab", 5: "ad", 8: "ad", 9: "abc", greatest: "ade"})
	holds(t, "the first, as it was", x, map[uint64]string{0: "a"})
	holds(t, "the second, as it was", far, map[uint64]string{0: "a", 1: "ab", 9: "abc"})
}

// P16.2: ErrThere, where it has that state already, whatever else is wrong.
func TestTakeThere(t *testing.T) {
	x := with(t, 1, 4, 7)
	for _, n := range []uint64{0, 1, 4, 7} {
		for _, i := range []sender.Instr{{New: n}, {Old: 1, New: n}, {Old: 6, New: n}, {Old: greatest, New: n, Diff: "!", Throw: 9}} {
			refuses(t, "there", x, i, api.ErrThere, named(0, 1, 4, 7))
		}
	}
}

// P16.2: ErrStale, where New is below all of its numbers, whatever else is wrong but that it is there.
func TestTakeStale(t *testing.T) {
	x := takes(t, "throw", with(t, 3, 5), sender.Instr{Old: 3, New: 6, Diff: "b", Throw: 3}, true)
	states := map[uint64]string{3: "a3", 5: "a5", 6: "a3b"}
	holds(t, "thrown", x, states)
	for n := range uint64(3) {
		for _, i := range []sender.Instr{{New: n}, {Old: 3, New: n}, {Old: 1, New: n, Diff: "!"}, {Old: greatest, New: n, Throw: 9}} {
			refuses(t, "stale", x, i, api.ErrStale, states)
		}
	}
	refuses(t, "there", x, sender.Instr{New: 3}, api.ErrThere, states)
	refuses(t, "not stale", x, sender.Instr{New: 4}, api.ErrBase, states)
	takes(t, "not stale", x, sender.Instr{Old: 3, New: 4}, false)
}

// P16.2: ErrBase, where there is no state of Old, or Old isn't below New, ahead of what the rule says.
func TestTakeBase(t *testing.T) {
	x := with(t, 3, 6)
	for _, i := range []sender.Instr{
		{Old: 1, New: 7}, {Old: 2, New: 7}, {Old: 4, New: 7, Diff: "!"}, {Old: 5, New: 7}, {Old: 7, New: 8}, {Old: greatest, New: 8, Throw: 6},
		{Old: 3, New: 1}, {Old: 3, New: 2, Diff: "!"}, {Old: 6, New: 4}, {Old: 6, New: 5}, {Old: 7, New: 7}, {Old: greatest, New: greatest}, {Old: 2, New: 1},
	} {
		refuses(t, "base", x, i, api.ErrBase, named(0, 3, 6))
	}
	refuses(t, "new", receiver.New("a", behind()), sender.Instr{Old: 5, New: 6}, api.ErrBase, named(0))
}

// P16.2: ErrForm, whatever error the rule has.
func TestTakeForm(t *testing.T) {
	x := with(t, 3, 6)
	for _, i := range []sender.Instr{{Old: 3, New: 7, Diff: "!"}, {Old: 0, New: 1, Diff: "!"}, {Old: 6, New: greatest, Diff: "!", Throw: greatest}} {
		refuses(t, "form", x, i, api.ErrForm, named(0, 3, 6))
	}
	for _, code := range []api.Errno{api.ErrNil, api.ErrForm, api.ErrRange, api.ErrThere, api.ErrSyntax, -1, 99} {
		rule := receiver.Rule[string]{Do: func(a, d string) (string, api.Errno) { return a + d, code }}
		refuses(t, "form", receiver.New("a", rule), sender.Instr{New: 1, Diff: "b"}, api.ErrForm, named(0))
	}
}

// P16.2: the rule is asked of the state of Old and the diff, once, and not where the instruction is refused.
func TestTakeAsksTheRule(t *testing.T) {
	var asked []string
	rule := receiver.Rule[string]{Do: func(a, d string) (string, api.Errno) {
		asked = append(asked, a+","+d)
		return d, api.OK
	}}
	x := receiver.New("a", rule)
	x = takes(t, "first", x, sender.Instr{New: 2, Diff: "b"}, true)
	x = takes(t, "second", x, sender.Instr{Old: 2, New: 3, Diff: "c"}, true)
	for _, i := range []sender.Instr{{New: 2}, {Old: 1, New: 4}, {Old: 3, New: 1}} {
		if _, _, code := x.Take(i); code == api.OK {
			t.Errorf("Take of %v is OK", i)
		}
	}
	holds(t, "answered", x, map[uint64]string{0: "a", 2: "b", 3: "c"})
	if !slices.Equal(asked, []string{"a,b", "b,c"}) {
		t.Errorf("the rule was asked of %q", asked)
	}
}

// P16.2: those below Throw are let go, but never the last one.
func TestTakeThrow(t *testing.T) {
	x := with(t, 2, 4, 6)
	for _, c := range []struct {
		new, throw uint64
		isLast     bool
		left       []uint64
	}{
		{8, 0, true, []uint64{0, 2, 4, 6, 8}},
		{8, 1, true, []uint64{2, 4, 6, 8}},
		{8, 2, true, []uint64{2, 4, 6, 8}},
		{8, 3, true, []uint64{4, 6, 8}},
		{8, 6, true, []uint64{6, 8}},
		{8, 7, true, []uint64{8}},
		{8, 8, true, []uint64{8}},
		{8, 9, true, []uint64{8}},
		{8, greatest, true, []uint64{8}},
		{5, 2, false, []uint64{2, 4, 5, 6}},
		{5, 5, false, []uint64{5, 6}},
		{5, 6, false, []uint64{6}},
		{5, 7, false, []uint64{6}},
		{1, greatest, false, []uint64{6}},
	} {
		next := takes(t, "throw", x, sender.Instr{New: c.new, Throw: c.throw, Diff: fmt.Sprint(c.new)}, c.isLast)
		holds(t, fmt.Sprintf("%d, throw %d", c.new, c.throw), next, named(c.left...))
		holds(t, "as it was", x, named(0, 2, 4, 6))
	}
}

// P16.2: what is refused throws nothing; a later instruction of a lesser Throw brings nothing back.
func TestThrownIsGone(t *testing.T) {
	x := takes(t, "throw", with(t, 2, 4), sender.Instr{New: 6, Throw: 4, Diff: "6"}, true)
	x = takes(t, "lesser", x, sender.Instr{Old: 4, New: 7, Diff: "b"}, true)
	states := map[uint64]string{4: "a4", 6: "a6", 7: "a4b"}
	holds(t, "thrown", x, states)
	refuses(t, "there", x, sender.Instr{Old: 4, New: 6, Throw: 7}, api.ErrThere, states)
	refuses(t, "gone", x, sender.Instr{Old: 2, New: 8, Throw: 7}, api.ErrBase, states)
}

// P16.1 and P16.2: there are 8 states at most: the first ones are let go.
func TestTakeOfEight(t *testing.T) {
	x := with(t, 2, 4, 6, 8, 10, 12, 14)
	full := []uint64{0, 2, 4, 6, 8, 10, 12, 14}
	holds(t, "eight", x, named(full...))
	for _, c := range []struct {
		new, throw uint64
		isLast     bool
		left       []uint64
	}{
		{16, 0, true, []uint64{2, 4, 6, 8, 10, 12, 14, 16}},
		{16, 2, true, []uint64{2, 4, 6, 8, 10, 12, 14, 16}},
		{16, 3, true, []uint64{4, 6, 8, 10, 12, 14, 16}},
		{16, 99, true, []uint64{16}},
		{15, 0, true, []uint64{2, 4, 6, 8, 10, 12, 14, 15}},
		{13, 0, false, []uint64{2, 4, 6, 8, 10, 12, 13, 14}},
		{1, 0, false, []uint64{1, 2, 4, 6, 8, 10, 12, 14}},
		{1, 2, false, []uint64{2, 4, 6, 8, 10, 12, 14}},
	} {
		next := takes(t, "ninth", x, sender.Instr{New: c.new, Throw: c.throw, Diff: fmt.Sprint(c.new)}, c.isLast)
		holds(t, fmt.Sprintf("ninth %d, throw %d", c.new, c.throw), next, named(c.left...))
		holds(t, "as it was", x, named(full...))
	}
	next := takes(t, "ninth", x, sender.Instr{New: 16, Diff: "16"}, true)
	next = takes(t, "tenth", next, sender.Instr{Old: 16, New: 17}, true)
	refuses(t, "the first is gone", next, sender.Instr{New: 18}, api.ErrBase, map[uint64]string{4: "a4", 6: "a6", 8: "a8", 10: "a10", 12: "a12", 14: "a14", 16: "a16", 17: "a16"})
	refuses(t, "below the first", next, sender.Instr{Old: 2, New: 3}, api.ErrStale, map[uint64]string{4: "a4", 6: "a6", 8: "a8", 10: "a10", 12: "a12", 14: "a14", 16: "a16", 17: "a16"})
}

// P16.1: two receivers that come of one don't meet.
func TestReceiversStayAsTheyWere(t *testing.T) {
	x := with(t, 2, 4)
	left := takes(t, "left", x, sender.Instr{New: 5, Diff: "l"}, true)
	right := takes(t, "right", x, sender.Instr{New: 5, Diff: "r"}, true)
	middle := takes(t, "middle", x, sender.Instr{New: 3, Diff: "m"}, false)
	takes(t, "left again", left, sender.Instr{New: 1, Diff: "n", Throw: 1}, false)
	holds(t, "left", left, map[uint64]string{0: "a", 2: "a2", 4: "a4", 5: "al"})
	holds(t, "right", right, map[uint64]string{0: "a", 2: "a2", 4: "a4", 5: "ar"})
	holds(t, "middle", middle, map[uint64]string{0: "a", 2: "a2", 3: "am", 4: "a4"})
	holds(t, "as it was", x, named(0, 2, 4))
}

// P16.2: a diff isn't kept, though the rule answers it itself.
func TestDiffIsntKept(t *testing.T) {
	rule := receiver.Rule[string]{Do: func(a, d string) (string, api.Errno) { return d, api.OK }}
	diff := strings.Repeat("d", 40)
	x := takes(t, "diff", receiver.New("a", rule), sender.Instr{New: 1, Diff: diff}, true)
	if _, v := x.Latest(); v != diff || unsafe.StringData(v) == unsafe.StringData(diff) {
		t.Errorf("the state %q is the diff's memory", v)
	}
}

// P16.1: a receiver stays as it was, where its memory has room for one state more too.
func TestReceiverOfBigStatesStaysAsItWas(t *testing.T) {
	// Seven states of this size get memory for eight.
	type big [73]uint64
	rule := receiver.Rule[big]{Do: func(a big, d string) (big, api.Errno) {
		a[0] += uint64(len(d))
		return a, api.OK
	}}
	x := receiver.New(big{}, rule)
	for n := uint64(2); n <= 12; n += 2 {
		x, _, _ = x.Take(sender.Instr{New: n, Diff: strings.Repeat("d", int(n))})
	}
	for n := uint64(1); n <= 13; n += 2 {
		if _, last, code := x.Take(sender.Instr{New: n, Diff: "d"}); last != (n == 13) || code != api.OK {
			t.Errorf("Take of %d: %v, %v", n, last, code)
		}
		if got := x.Numbers(); !slices.Equal(got, []uint64{0, 2, 4, 6, 8, 10, 12}) {
			t.Fatalf("behind Take of %d the numbers are %v", n, got)
		}
		for m := uint64(0); m <= 12; m += 2 {
			if v, ok := x.Of(m); !ok || v[0] != m {
				t.Errorf("behind Take of %d state %d is %d, %v", n, m, v[0], ok)
			}
		}
	}
}
