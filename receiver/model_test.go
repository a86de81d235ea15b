package receiver_test

import (
	"fmt"
	"math/rand"
	"slices"
	"strconv"
	"testing"

	"vagabond/api"
	"vagabond/receiver"
	"vagabond/sender"
)

// model is a receiver as the document tells it.
type model map[uint64]string

// ends: the least number and the greatest.
func (m model) ends() (uint64, uint64) {
	least, most := uint64(greatest), uint64(0)
	for n := range m {
		least, most = min(least, n), max(most, n)
	}
	return least, most
}

// take: what an instruction does.
func (m model) take(i sender.Instr) (bool, api.Errno) {
	least, most := m.ends()
	if _, there := m[i.New]; there {
		return false, api.ErrThere
	}
	if i.New < least {
		return false, api.ErrStale
	}
	old, there := m[i.Old]
	if !there || i.Old >= i.New {
		return false, api.ErrBase
	}
	if i.Diff == "!" {
		return false, api.ErrForm
	}
	m[i.New] = old + i.Diff
	most = max(most, i.New)
	for n := range m {
		if n < i.Throw && n != most {
			delete(m, n)
		}
	}
	for len(m) > 8 {
		least, _ = m.ends()
		delete(m, least)
	}
	return i.New == most, api.OK
}

// P16.1 and P16.2: whatever comes, in whatever order.
func TestWhateverComes(t *testing.T) {
	r := rand.New(rand.NewSource(16))
	counts := map[api.Errno]int{}
	for round := range 300 {
		x, m := receiver.New("a", behind()), model{0: "a"}
		for step := range 100 {
			_, most := m.ends()
			numbers := x.Numbers()
			i := sender.Instr{Old: numbers[r.Intn(len(numbers))], New: uint64(r.Intn(int(most) + 4)), Diff: []string{"", "b", "cd", "!"}[r.Intn(4)]}
			if r.Intn(4) == 0 {
				i.Old = uint64(r.Intn(int(most) + 4))
			}
			if r.Intn(4) == 0 {
				i.Throw = uint64(r.Intn(int(most) + 4))
			}
			wanted, refused := m.take(i)
			next, last, code := x.Take(i)
			if last != wanted || code != refused {
				t.Fatalf("Take of %v by %v: %v, %v, wanted %v, %v", i, numbers, last, code, wanted, refused)
			}
			counts[code]++
			x = next
			holds(t, fmt.Sprint("round ", round, ", step ", step), x, m)
			if t.Failed() {
				return
			}
		}
	}
	for _, code := range []api.Errno{api.OK, api.ErrThere, api.ErrStale, api.ErrBase, api.ErrForm} {
		if counts[code] < 100 {
			t.Errorf("%v came only %d times", code, counts[code])
		}
	}
}

// talk: a sender and a receiver of numbers, with a line between that loses, doubles and turns about.
type talk struct {
	s    sender.Sender[int]
	x    receiver.Receiver[int]
	sent map[uint64]int
	line []sender.Instr
}

// newTalk: one that begins with 0.
func newTalk() *talk {
	out := sender.Rule[int]{
		Diff: func(a, b int) string { return strconv.Itoa(b - a) },
		Same: func(a, b int) bool { return a == b },
	}
	in := receiver.Rule[int]{Do: func(a int, d string) (int, api.Errno) {
		n, err := strconv.Atoi(d)
		if err != nil {
			return 0, api.ErrForm
		}
		return a + n, api.OK
	}}
	return &talk{s: sender.New(0, out), x: receiver.New(0, in), sent: map[uint64]int{0: 0}}
}

// send: what is due goes out, if the line doesn't lose it.
func (k *talk) send(now uint64, lost bool) {
	next, i, ok := k.s.Next(now, 3, 9, 0)
	if !ok {
		return
	}
	if _, there := k.sent[i.New]; !there {
		k.sent[i.New] = next.Current()
	}
	k.s = next
	if !lost {
		k.line = append(k.line, i)
	}
}

// check: the receiver has what was sent, and its last one isn't below that number.
func (k *talk) check(t *testing.T, latest uint64) {
	t.Helper()
	for _, n := range k.x.Numbers() {
		v, ok := k.x.Of(n)
		if wanted, there := k.sent[n]; !there || !ok || v != wanted {
			t.Fatalf("state %d: %d, %v, and what was sent: %d, %v", n, v, ok, wanted, there)
		}
	}
	if n, v := k.x.Latest(); n < latest || v != k.sent[n] {
		t.Fatalf("behind %d the latest is %d, %d", latest, n, v)
	}
	if n := k.x.Numbers(); len(n) < 1 || len(n) > 8 || !slices.IsSorted(n) {
		t.Fatalf("numbers %v", n)
	}
}

// P16.3: whatever comes, in whatever order: the states are those that were sent, and Latest never falls.
func TestWhatFollows(t *testing.T) {
	for seed := range int64(20) {
		r := rand.New(rand.NewSource(seed))
		k := newTalk()
		for now := range uint64(1000) {
			k.s = k.s.Set(r.Intn(30))
			k.send(now, r.Intn(3) == 0)
			if r.Intn(20) == 0 {
				// One that nobody sent so: its base isn't there, or its diff is no number.
				k.line = append(k.line, sender.Instr{Old: 1 << 40, New: 1 << 41, Diff: "1"}, sender.Instr{New: 1 << 41, Diff: "x"})
			}
			for len(k.line) > 0 && r.Intn(3) > 0 {
				at := r.Intn(len(k.line))
				latest, _ := k.x.Latest()
				next, _, _ := k.x.Take(k.line[at])
				k.x = next
				k.check(t, latest)
				if r.Intn(3) > 0 {
					k.line = slices.Delete(k.line, at, at+1)
				}
			}
			if r.Intn(4) == 0 {
				latest, _ := k.x.Latest()
				k.s = k.s.Acked(latest)
			}
		}
		if n, _ := k.x.Latest(); n < 100 {
			t.Errorf("only %d states came", n)
		}
	}
}
