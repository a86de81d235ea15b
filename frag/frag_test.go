package frag_test

import (
	"math"
	"math/rand"
	"slices"
	"strings"
	"testing"
	"unsafe"

	"vagabond/api"
	"vagabond/frag"
	"vagabond/wire"
)

// pattern: a text of so many bytes, all kinds of them.
func pattern(n int) string {
	out := make([]byte, n)
	for i := range out {
		out[i] = byte(i*i*17 + i*5 + 9)
	}
	return string(out)
}

// part: one of instruction 7, that isn't Last.
func part(index int, text string) wire.Part {
	return wire.Part{Number: 7, Index: index, Text: text}
}

// last: one of instruction 7 that is Last.
func last(index int, text string) wire.Part {
	return wire.Part{Number: 7, Index: index, Text: text, Last: true}
}

// maker: one of instruction 7, of those parts.
func maker(l ...wire.Part) frag.Maker { return frag.Maker{Number: 7, Parts: l} }

// same: are two makers one?
func same(a, b frag.Maker) bool { return a.Number == b.Number && slices.Equal(a.Parts, b.Parts) }

// split: a text's parts.
func split(t *testing.T, number uint64, text string, room int) []wire.Part {
	t.Helper()
	l, code := frag.Split(number, text, room)
	if code != api.OK {
		t.Fatalf("Split of %d bytes by %d: %v", len(text), room, code)
	}
	return l
}

// adds: Add takes a part, and answers that maker, its text, and whether it is whole.
func adds(t *testing.T, m frag.Maker, p wire.Part, wanted frag.Maker, text string, whole bool) frag.Maker {
	t.Helper()
	before := slices.Clone(m.Parts)
	got, s, ok, code := m.Add(p)
	if !same(got, wanted) || s != text || ok != whole || code != api.OK {
		t.Errorf("Add of %v to %v: %v, %q, %v, %v, wanted %v, %q, %v", p, m, got, s, ok, code, wanted, text, whole)
	}
	if !slices.Equal(m.Parts, before) {
		t.Errorf("Add of %v changed the maker to %v", p, m)
	}
	return got
}

// refuses: Add answers that error, and the maker as it was.
func refuses(t *testing.T, m frag.Maker, p wire.Part, wanted api.Errno) {
	t.Helper()
	before := frag.Maker{Number: m.Number, Parts: slices.Clone(m.Parts)}
	got, s, ok, code := m.Add(p)
	if !same(got, before) || s != "" || ok || code != wanted {
		t.Errorf("Add of %v to %v: %v, %q, %v, %v, wanted %v", p, before, got, s, ok, code, wanted)
	}
	if !same(m, before) {
		t.Errorf("Add of %v changed %v to %v", p, before, m)
	}
}

// joins: parts make that text.
func joins(t *testing.T, l []wire.Part, wanted string) {
	t.Helper()
	if s, ok := frag.Join(l); s != wanted || !ok {
		t.Errorf("Join of %v: %q, %v, wanted %q", l, s, ok, wanted)
	}
	if s, ok := (frag.Maker{Number: 3, Parts: l}).Whole(); s != wanted || !ok {
		t.Errorf("Whole of %v: %q, %v, wanted %q", l, s, ok, wanted)
	}
}

// doesNotJoin: parts make no text.
func doesNotJoin(t *testing.T, l ...wire.Part) {
	t.Helper()
	if s, ok := frag.Join(l); s != "" || ok {
		t.Errorf("Join of %v: %q, %v", l, s, ok)
	}
	if s, ok := (frag.Maker{Number: 3, Parts: l}).Whole(); s != "" || ok {
		t.Errorf("Whole of %v: %q, %v", l, s, ok)
	}
}

// shuffled: the parts in another order.
func shuffled(r *rand.Rand, l []wire.Part) []wire.Part {
	out := slices.Clone(l)
	r.Shuffle(len(out), func(i, j int) { out[i], out[j] = out[j], out[i] })
	return out
}

// P10.1: room bytes each but the last one, rising from 0 on, the last one Last, stamps 0.
func TestSplit(t *testing.T) {
	cases := []struct {
		text   string
		room   int
		wanted []wire.Part
	}{
		{"abc", 2, []wire.Part{part(0, "ab"), last(1, "c")}},
		{"abcd", 2, []wire.Part{part(0, "ab"), last(1, "cd")}},
		{"abc", 1, []wire.Part{part(0, "a"), part(1, "b"), last(2, "c")}},
		{"abc", 3, []wire.Part{last(0, "abc")}},
		{"abc", 466, []wire.Part{last(0, "abc")}},
		{"\x00\xff", 1, []wire.Part{part(0, "\x00"), last(1, "\xff")}},
		{"", 1, []wire.Part{last(0, "")}},
		{"", 466, []wire.Part{last(0, "")}},
	}
	for _, c := range cases {
		if got := split(t, 7, c.text, c.room); !slices.Equal(got, c.wanted) {
			t.Errorf("Split of %q by %d: %v, wanted %v", c.text, c.room, got, c.wanted)
		}
	}
}

// P10.1: the parts have the number, whichever it is.
func TestSplitNumbers(t *testing.T) {
	for _, number := range []uint64{0, 1, 1 << 63, math.MaxUint64} {
		for _, p := range split(t, number, "abc", 2) {
			if p.Number != number {
				t.Errorf("Split of number %d: %v", number, p)
			}
		}
	}
}

// P10.1: the room is from 1 to 466; its error is told first.
func TestSplitRange(t *testing.T) {
	for _, room := range []int{math.MinInt, -466, -1, 0, 467, 468, 512, math.MaxInt} {
		for _, text := range []string{"", "abc", pattern(100000)} {
			if l, code := frag.Split(1, text, room); len(l) != 0 || code != api.ErrRange {
				t.Errorf("Split of %d bytes by %d: %v, %v", len(text), room, l, code)
			}
		}
	}
}

// P10.1: 32 parts may be, 33 may not; every part may be, and together they are the text.
func TestSplitMany(t *testing.T) {
	for _, room := range []int{1, 2, 3, 100, 128, 465, 466} {
		for _, n := range []int{0, 1, room - 1, room, room + 1, 31 * room, 31*room + 1, 32*room - 1, 32 * room} {
			l := split(t, 9, pattern(n), room)
			if wanted := max(1, (n+room-1)/room); len(l) != wanted {
				t.Errorf("Split of %d bytes by %d: %d parts, wanted %d", n, room, len(l), wanted)
			}
			for i, p := range l {
				if _, code := p.Bytes(); code != api.OK || i < len(l)-1 && len(p.Text) != room || n > 0 && p.Text == "" {
					t.Errorf("Split of %d bytes by %d: part %v, %v", n, room, p, code)
				}
			}
			joins(t, l, pattern(n))
		}
		for _, n := range []int{32*room + 1, 33 * room, 64 * room, 100000} {
			if l, code := frag.Split(9, pattern(n), room); len(l) != 0 || code != api.ErrMany {
				t.Errorf("Split of %d bytes by %d: %d parts, %v", n, room, len(l), code)
			}
		}
	}
}

// P10.1: parts are joined in whatever order they stand.
func TestJoinOrder(t *testing.T) {
	a, b, c := part(0, "a"), part(1, "bb"), last(2, "c")
	for _, l := range [][]wire.Part{{a, b, c}, {a, c, b}, {b, a, c}, {b, c, a}, {c, a, b}, {c, b, a}} {
		joins(t, l, "abbc")
	}
	joins(t, []wire.Part{last(0, "")}, "")
	joins(t, []wire.Part{last(1, ""), part(0, "")}, "")
}

// P10.1: numbers, stamps and lengths don't matter, nor how many there are.
func TestJoinWhatever(t *testing.T) {
	a, b := part(0, pattern(1000)), last(1, "")
	a.Number, a.Stamp, a.Reply, b.Number, b.Stamp = 1, 2, 3, math.MaxUint64, 65535
	joins(t, []wire.Part{b, a}, pattern(1000))
	var l []wire.Part
	for i := range 100 {
		l = append(l, wire.Part{Number: uint64(i), Index: i, Last: i == 99, Text: pattern(i)[i/2:]})
	}
	wanted := ""
	for _, p := range l {
		wanted += p.Text
	}
	slices.Reverse(l)
	joins(t, l, wanted)
}

// P10.1: where an index is missing, doubled or wrong, or another one is Last, there is no text.
func TestJoinNot(t *testing.T) {
	doesNotJoin(t)
	doesNotJoin(t, part(0, "a"))
	doesNotJoin(t, last(1, "a"))
	doesNotJoin(t, part(0, "a"), part(1, "b"))
	doesNotJoin(t, part(0, "a"), last(2, "b"))
	doesNotJoin(t, part(1, "a"), last(2, "b"))
	doesNotJoin(t, last(0, "a"), part(1, "b"))
	doesNotJoin(t, last(0, "a"), last(1, "b"))
	doesNotJoin(t, part(0, "a"), part(0, "a"))
	doesNotJoin(t, last(0, "a"), last(0, "a"))
	doesNotJoin(t, part(0, "a"), part(0, "a"), last(1, "b"))
	doesNotJoin(t, part(0, "a"), last(1, "b"), last(1, "b"))
	doesNotJoin(t, part(0, "a"), part(1, "b"), last(1, "b"))
	doesNotJoin(t, part(0, "a"), last(1, "b"), part(1, "b"))
	doesNotJoin(t, part(-1, "a"), last(0, "b"))
	doesNotJoin(t, part(-1, "a"), part(0, "b"), last(1, "c"))
	for _, i := range []int{math.MinInt, -1, 1, 32, math.MaxInt} {
		doesNotJoin(t, last(i, "a"))
		doesNotJoin(t, part(0, "a"), part(i, "b"))
	}
}

// P10.2: a part that may not be is refused ahead of all else.
func TestAddRange(t *testing.T) {
	m := maker(part(0, "a"), last(2, "c"))
	for _, p := range []wire.Part{part(-1, "x"), part(32, "x"), last(math.MinInt, ""), last(math.MaxInt, ""), part(1, pattern(467)), part(0, pattern(1000))} {
		for _, number := range []uint64{0, 6, 7, 8, math.MaxUint64} {
			p.Number = number
			refuses(t, m, p, api.ErrRange)
			refuses(t, frag.Maker{}, p, api.ErrRange)
			refuses(t, maker(), p, api.ErrRange)
			// One of its index that is there doesn't help it.
			refuses(t, frag.Maker{Number: number, Parts: []wire.Part{p}}, p, api.ErrRange)
		}
	}
	adds(t, m, part(1, pattern(466)), maker(part(0, "a"), part(1, pattern(466)), last(2, "c")), "a"+pattern(466)+"c", true)
	adds(t, frag.Maker{}, part(31, ""), maker(part(31, "")), "", false)
}

// P10.2: a number below the maker's is stale, also where there are no parts, and where the same part is there.
func TestAddStale(t *testing.T) {
	old := part(0, "a")
	for _, number := range []uint64{0, 1, 6} {
		old.Number = number
		refuses(t, maker(part(0, "a")), old, api.ErrStale)
		refuses(t, maker(), old, api.ErrStale)
		refuses(t, maker(old), old, api.ErrStale)
		refuses(t, frag.Maker{Number: math.MaxUint64}, old, api.ErrStale)
	}
}

// P10.2: a number above the maker's, or no parts: of it alone, a new one.
func TestAddNew(t *testing.T) {
	adds(t, frag.Maker{}, part(3, "x"), maker(part(3, "x")), "", false)
	adds(t, frag.Maker{}, last(0, "x"), maker(last(0, "x")), "x", true)
	adds(t, frag.Maker{}, last(0, ""), maker(last(0, "")), "", true)
	adds(t, maker(), last(2, "x"), maker(last(2, "x")), "", false)
	adds(t, frag.Maker{}, wire.Part{}, frag.Maker{Parts: []wire.Part{{}}}, "", false)
	full := maker(part(0, "a"), last(1, "b"))
	for _, number := range []uint64{8, 9, math.MaxUint64} {
		p, q := part(0, "a"), last(0, "a")
		p.Number, q.Number = number, number
		p.Stamp, p.Reply = 3, 4
		adds(t, full, p, frag.Maker{Number: number, Parts: []wire.Part{p}}, "", false)
		adds(t, full, q, frag.Maker{Number: number, Parts: []wire.Part{q}}, "a", true)
	}
}

// P10.2: parts stand by rising indexes, with the stamps with which they came; the text is there with the last of them.
func TestAddRising(t *testing.T) {
	a, b, c := part(0, "a"), part(1, "bb"), last(2, "c")
	a.Stamp, b.Reply, c.Stamp = 1, 2, 65535
	m := adds(t, frag.Maker{}, b, maker(b), "", false)
	m = adds(t, m, c, maker(b, c), "", false)
	m = adds(t, m, a, maker(a, b, c), "abbc", true)
	if s, ok := m.Whole(); s != "abbc" || !ok {
		t.Errorf("Whole: %q, %v", s, ok)
	}
	adds(t, maker(c), a, maker(a, c), "", false)
	adds(t, maker(a), c, maker(a, c), "", false)
}

// P10.2: the same part again, but for its stamps, is there.
func TestAddThere(t *testing.T) {
	m := maker(part(0, "a"), part(1, "b"), last(3, "d"))
	m.Parts[1].Stamp, m.Parts[1].Reply = 5, 6
	for _, p := range m.Parts {
		for _, stamp := range []uint16{0, 5, 6, 65535} {
			p.Stamp = stamp
			refuses(t, m, p, api.ErrThere)
			p.Reply = stamp + 1
			refuses(t, m, p, api.ErrThere)
		}
	}
	refuses(t, maker(last(0, "")), last(0, ""), api.ErrThere)
	refuses(t, maker(part(0, "a"), last(1, "b")), part(0, "a"), api.ErrThere)
}

// P10.2: another part of an index that is there isn't taken.
func TestAddOther(t *testing.T) {
	m := maker(part(0, "a"), part(1, "b"), last(3, "d"))
	for _, p := range []wire.Part{part(0, "b"), part(0, ""), part(0, "a\x00"), part(1, "a"), last(1, "b"), last(0, "a"), part(3, "d"), last(3, "x")} {
		refuses(t, m, p, api.ErrForm)
		p.Stamp, p.Reply = 9, 9
		refuses(t, m, p, api.ErrForm)
	}
}

// P10.2: two that are Last, or one above the Last one, aren't taken, whichever comes first.
func TestAddBehindLast(t *testing.T) {
	refuses(t, maker(last(2, "c")), last(1, "b"), api.ErrForm)
	refuses(t, maker(last(2, "c")), last(3, "d"), api.ErrForm)
	refuses(t, maker(last(2, "c")), part(3, "d"), api.ErrForm)
	refuses(t, maker(last(2, "c")), part(31, "d"), api.ErrForm)
	refuses(t, maker(part(0, "a"), part(3, "d")), last(2, "c"), api.ErrForm)
	refuses(t, maker(part(31, "z")), last(0, "a"), api.ErrForm)
	refuses(t, maker(last(0, "a")), part(1, "b"), api.ErrForm)
	refuses(t, maker(part(0, "a"), last(1, "b")), part(2, "c"), api.ErrForm)
	adds(t, maker(part(0, "a"), part(3, "d")), last(4, "e"), maker(part(0, "a"), part(3, "d"), last(4, "e")), "", false)
	adds(t, maker(last(2, "c")), part(1, "b"), maker(part(1, "b"), last(2, "c")), "", false)
}

// P10.2: whatever parts somebody wrote into a maker, Add says of them what the chapter says.
func TestAddToWritten(t *testing.T) {
	elder := part(0, "a")
	elder.Number = 6
	// The same but for its stamps: the number belongs to it.
	refuses(t, maker(elder), part(0, "a"), api.ErrForm)
	adds(t, maker(elder), last(1, "b"), maker(elder, last(1, "b")), "ab", true)
	// That one is there comes ahead of that there is another one.
	refuses(t, maker(part(0, "x"), part(0, "a")), part(0, "a"), api.ErrThere)
	refuses(t, maker(last(5, "x"), last(4, "y"), part(0, "a")), part(0, "a"), api.ErrThere)
	// Two that are Last already, and one above the Last one already.
	refuses(t, maker(last(5, "x"), last(4, "y")), part(0, "a"), api.ErrForm)
	refuses(t, maker(last(5, "x"), last(5, "x")), part(0, "a"), api.ErrForm)
	refuses(t, maker(part(6, "x"), last(4, "y")), part(0, "a"), api.ErrForm)
	refuses(t, maker(last(-1, "x")), part(0, "a"), api.ErrForm)
	refuses(t, maker(part(math.MaxInt, "x")), last(0, "a"), api.ErrForm)
	// Neither order nor doubles nor indexes of others are an error: they stand by rising indexes.
	adds(t, maker(last(3, "d"), part(1, "b")), part(0, "a"), maker(part(0, "a"), part(1, "b"), last(3, "d")), "", false)
	adds(t, maker(last(2, "c"), part(1, "b")), part(0, "a"), maker(part(0, "a"), part(1, "b"), last(2, "c")), "abc", true)
	adds(t, maker(last(2, "c"), part(2, "x"), part(1, "b")), part(0, "a"), maker(part(0, "a"), part(1, "b"), last(2, "c"), part(2, "x")), "", false)
	adds(t, maker(part(2, "x"), last(2, "c")), part(0, "a"), maker(part(0, "a"), part(2, "x"), last(2, "c")), "", false)
	adds(t, maker(part(-1, "x")), last(0, "a"), maker(part(-1, "x"), last(0, "a")), "", false)
	adds(t, maker(part(50, "x")), part(0, "a"), maker(part(0, "a"), part(50, "x")), "", false)
}

// The rule of memory: neither what was handed in nor its spare room is changed, and no two lists are one.
func TestMemory(t *testing.T) {
	room := []wire.Part{last(2, "c"), part(1, "b"), part(9, "spare")}
	m := frag.Maker{Number: 7, Parts: room[:2]}
	got, _, _, _ := m.Add(part(0, "a"))
	frag.Join(m.Parts)
	m.Whole()
	if !slices.Equal(room, []wire.Part{last(2, "c"), part(1, "b"), part(9, "spare")}) {
		t.Fatalf("what was handed in became %v", room)
	}
	refused, _, _, code := m.Add(part(1, "b"))
	if code != api.ErrThere {
		t.Fatalf("Add: %v", code)
	}
	room[0].Text, room[1].Text = "x", "y"
	refused.Parts[0].Index = 4
	if !same(got, maker(part(0, "a"), part(1, "b"), last(2, "c"))) || refused.Parts[0].Text != "c" || room[0].Index != 2 {
		t.Errorf("an answer shares memory: %v, %v, %v", got, refused, room)
	}
}

// The rule of memory: two makers of one elder one don't reach each other.
func TestTwoOfOne(t *testing.T) {
	m, _, _, _ := (frag.Maker{}).Add(part(0, "a"))
	m, _, _, _ = m.Add(part(1, "b"))
	b, _, _, _ := m.Add(last(2, "c"))
	c, _, _, _ := m.Add(last(2, "x"))
	if !same(b, maker(part(0, "a"), part(1, "b"), last(2, "c"))) || !same(c, maker(part(0, "a"), part(1, "b"), last(2, "x"))) {
		t.Errorf("%v, %v", b, c)
	}
	if !same(m, maker(part(0, "a"), part(1, "b"))) {
		t.Errorf("the elder one became %v", m)
	}
}

// The rule of memory: the texts of answers are new, too.
func TestTextsAreNew(t *testing.T) {
	text := pattern(30)
	parts := split(t, 7, text, 10)
	m, _, _, _ := (frag.Maker{}).Add(parts[0])
	next, _, _, _ := m.Add(parts[1])
	refused, _, _, _ := m.Add(parts[0])
	single := last(0, text)
	joined, _ := frag.Join([]wire.Part{single})
	seen := map[*byte]int{}
	for _, s := range []string{text, parts[0].Text, parts[1].Text, m.Parts[0].Text, next.Parts[0].Text, next.Parts[1].Text, refused.Parts[0].Text, joined} {
		seen[unsafe.StringData(s)]++
	}
	if len(seen) != 8 {
		t.Errorf("8 texts have %d places", len(seen))
	}
}

// P10.3: in whatever order parts come, as often as they like, the text is there when all have come, and not before.
func TestAnyOrder(t *testing.T) {
	r := rand.New(rand.NewSource(10))
	for round := range 300 {
		room := 1 + r.Intn(466)
		text := pattern(r.Intn(32*room + 1))
		parts := split(t, uint64(round), text, room)
		coming := shuffled(r, append(slices.Clone(parts), parts[:r.Intn(len(parts)+1)]...))
		m, came := frag.Maker{}, map[int]int{}
		for _, p := range coming {
			p.Stamp, p.Reply = uint16(r.Uint32()), uint16(r.Uint32())
			next, s, ok, code := m.Add(p)
			if came[p.Index] > 0 {
				if code != api.ErrThere || s != "" || ok || !same(next, m) {
					t.Fatalf("a part that came: %q, %v, %v", s, ok, code)
				}
				continue
			}
			came[p.Index]++
			all := len(came) == len(parts)
			if code != api.OK || ok != all || ok && s != text || !ok && s != "" {
				t.Fatalf("%d of %d came: %d bytes, %v, %v", len(came), len(parts), len(s), ok, code)
			}
			m = next
		}
		if s, ok := m.Whole(); s != text || !ok {
			t.Fatalf("Whole of %d parts: %d bytes, %v", len(parts), len(s), ok)
		}
	}
}

// added: what Add answers of a maker and a part, told plainly: every clause looked at by itself.
func added(m frag.Maker, p wire.Part) (frag.Maker, api.Errno) {
	if p.Index < 0 || p.Index > 31 || len(p.Text) > 466 {
		return m, api.ErrRange
	}
	if p.Number < m.Number {
		return m, api.ErrStale
	}
	if p.Number > m.Number || len(m.Parts) == 0 {
		return frag.Maker{Number: p.Number, Parts: []wire.Part{p}}, api.OK
	}
	at, there := map[int][]wire.Part{}, false
	lasts, end := 0, math.MaxInt
	for _, q := range append([]wire.Part{p}, m.Parts...) {
		at[q.Index] = append(at[q.Index], q)
		if q.Last {
			lasts, end = lasts+1, q.Index
		}
	}
	for _, q := range at[p.Index][1:] {
		there = there || q.Last == p.Last && q.Text == p.Text && q.Number == p.Number
	}
	var indexes []int
	for i := range at {
		indexes = append(indexes, i)
	}
	slices.Sort(indexes)
	if there {
		return m, api.ErrThere
	}
	if len(at[p.Index]) > 1 || lasts > 1 || indexes[len(indexes)-1] > end {
		return m, api.ErrForm
	}
	out := frag.Maker{Number: m.Number}
	for _, i := range indexes {
		out.Parts = append(out.Parts, at[i]...)
	}
	return out, api.OK
}

// P10.2: whatever maker and part, Add answers what the chapter says.
func TestAddAny(t *testing.T) {
	r := rand.New(rand.NewSource(102))
	some := func() wire.Part {
		return wire.Part{Stamp: uint16(r.Intn(2)), Reply: uint16(r.Intn(2)), Number: 6 + uint64(r.Intn(8))/3, Index: r.Intn(6) - 1, Last: r.Intn(4) == 0, Text: strings.Repeat("t", r.Intn(2))}
	}
	seen := map[api.Errno]int{}
	for range 20000 {
		m := frag.Maker{Number: 6 + uint64(r.Intn(3))}
		for range r.Intn(5) {
			m.Parts = append(m.Parts, some())
		}
		p := some()
		wanted, code := added(m, p)
		seen[code]++
		if code != api.OK {
			refuses(t, m, p, code)
			continue
		}
		s, ok := frag.Join(wanted.Parts)
		adds(t, m, p, wanted, s, ok)
	}
	for _, code := range []api.Errno{api.OK, api.ErrRange, api.ErrStale, api.ErrThere, api.ErrForm} {
		if seen[code] == 0 {
			t.Errorf("no case of %v came up", code)
		}
	}
}
