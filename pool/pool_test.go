package pool_test

import (
	"math"
	"math/rand"
	"slices"
	"strings"
	"testing"

	"vagabond/api"
	"vagabond/pool"
)

// noughts: what all bytes of a free buffer are.
var noughts = strings.Repeat("\x00", 512)

// pattern: a text of so many bytes, none of them 0.
func pattern(n int) string {
	out := make([]byte, n)
	for i := range out {
		out[i] = byte(i%255 + 1)
	}
	return string(out)
}

// made: a pool of so many.
func made(t *testing.T, n int) *pool.Pool {
	t.Helper()
	p, code := pool.New(n)
	if code != api.OK || p == nil {
		t.Fatalf("New(%d): %v", n, code)
	}
	return p
}

// gets: Get answers that number.
func gets(t *testing.T, p *pool.Pool, s string, wanted int) {
	t.Helper()
	if i, code := p.Get(s); i != wanted || code != api.OK {
		t.Fatalf("Get: %d, %v, wanted %d", i, code, wanted)
	}
}

// refuses: Get answers that error, and the number 0.
func refuses(t *testing.T, p *pool.Pool, s string, wanted api.Errno) {
	t.Helper()
	if i, code := p.Get(s); i != 0 || code != wanted {
		t.Errorf("Get: %d, %v, wanted %v", i, code, wanted)
	}
}

// reads: a buffer's text, and behind it noughts alone.
func reads(t *testing.T, p *pool.Pool, i int, wanted string) {
	t.Helper()
	if s, code := p.Read(i); s != wanted || code != api.OK {
		t.Errorf("Read(%d): %q, %v, wanted %q", i, s, code, wanted)
	}
	if raw := p.Raw(i); raw != wanted+noughts[len(wanted):] {
		t.Errorf("Raw(%d): %q, wanted %q and noughts", i, raw, wanted)
	}
}

// isNobodys: a number's buffer can't be read, written, put back.
func isNobodys(t *testing.T, p *pool.Pool, i int, wanted api.Errno) {
	t.Helper()
	if s, code := p.Read(i); s != "" || code != wanted {
		t.Errorf("Read(%d): %q, %v, wanted %v", i, s, code, wanted)
	}
	for _, s := range []string{"", "x", pattern(512), pattern(513)} {
		if code := p.Write(i, s); code != wanted {
			t.Errorf("Write(%d) of %d bytes: %v, wanted %v", i, len(s), code, wanted)
		}
	}
	if code := p.Put(i); code != wanted {
		t.Errorf("Put(%d): %v, wanted %v", i, code, wanted)
	}
}

// P8.1: from 1 to 256 buffers, all free, all noughts.
func TestNew(t *testing.T) {
	for _, n := range []int{1, 2, 3, 255, 256} {
		p := made(t, n)
		if p.Free() != n || len(p.Held()) != 0 || p.Ever() != 0 {
			t.Errorf("New(%d): %d free, %v held, %d ever", n, p.Free(), p.Held(), p.Ever())
		}
		for i := range n {
			if p.Raw(i) != noughts {
				t.Errorf("New(%d): buffer %d isn't all noughts", n, i)
			}
		}
		if p.Raw(n) != "" {
			t.Errorf("New(%d) has a buffer %d", n, n)
		}
	}
	for _, n := range []int{math.MinInt, -1, 0, 257, 512, math.MaxInt} {
		if p, code := pool.New(n); p != nil || code != api.ErrRange {
			t.Errorf("New(%d): %v, %v", n, p, code)
		}
	}
}

// P8.1: the free one with the least number is held.
func TestGetLeast(t *testing.T) {
	p := made(t, 3)
	gets(t, p, "a", 0)
	gets(t, p, "b", 1)
	p.Put(0)
	gets(t, p, "c", 0)
	gets(t, p, "d", 2)
	p.Put(2)
	p.Put(1)
	gets(t, p, "e", 1)
	gets(t, p, "f", 2)
	for i, s := range []string{"c", "e", "f"} {
		reads(t, p, i, s)
	}
}

// P8.1: all of the greatest pool's buffers come, in order, and then none.
func TestGetAll(t *testing.T) {
	p := made(t, 256)
	for i := range 256 {
		gets(t, p, pattern(i), i)
	}
	refuses(t, p, "", api.ErrEmpty)
	for i := range 256 {
		reads(t, p, i, pattern(i))
	}
	p.Put(255)
	gets(t, p, "last", 255)
}

// P8.1: what is refused holds nothing; a text that is too long is told first.
func TestGetRefused(t *testing.T) {
	p := made(t, 1)
	refuses(t, p, pattern(513), api.ErrLong)
	refuses(t, p, pattern(100000), api.ErrLong)
	if p.Free() != 1 || p.Ever() != 0 || p.Raw(0) != noughts {
		t.Errorf("what was refused is kept: %d free, %d ever", p.Free(), p.Ever())
	}
	gets(t, p, pattern(512), 0)
	refuses(t, p, "", api.ErrEmpty)
	refuses(t, p, pattern(512), api.ErrEmpty)
	refuses(t, p, pattern(513), api.ErrLong)
	if p.Ever() != 1 {
		t.Errorf("%d were gotten", p.Ever())
	}
	reads(t, p, 0, pattern(512))
}

// P8.1: texts of all sizes and bytes are read as they were, those too that end in noughts.
func TestTexts(t *testing.T) {
	p := made(t, 2)
	for _, s := range []string{"", "\x00", "a", "a\x00", "\x00\x00a\x00\x00", "\xff\xfe", pattern(511), pattern(512), noughts, noughts[1:]} {
		gets(t, p, s, 0)
		gets(t, p, "", 1)
		reads(t, p, 0, s)
		if code := p.Write(1, s); code != api.OK {
			t.Errorf("Write of %d bytes: %v", len(s), code)
		}
		reads(t, p, 1, s)
		p.Put(0)
		p.Put(1)
	}
}

// P8.1: a buffer that is written has that text alone.
func TestWriteAlone(t *testing.T) {
	p := made(t, 2)
	gets(t, p, pattern(512), 0)
	gets(t, p, "other", 1)
	for _, s := range []string{pattern(300), "abc", "", "ab", pattern(512), "\x00"} {
		if code := p.Write(0, s); code != api.OK {
			t.Errorf("Write of %d bytes: %v", len(s), code)
		}
		reads(t, p, 0, s)
		reads(t, p, 1, "other")
	}
}

// P8.1: what is too long isn't written, and the text stays; ErrOwner is told first.
func TestWriteLong(t *testing.T) {
	p := made(t, 2)
	gets(t, p, "stays", 0)
	for _, n := range []int{513, 1024, 100000} {
		if code := p.Write(0, pattern(n)); code != api.ErrLong {
			t.Errorf("Write of %d bytes: %v", n, code)
		}
		if code := p.Write(1, pattern(n)); code != api.ErrOwner {
			t.Errorf("Write of %d bytes to a free one: %v", n, code)
		}
	}
	reads(t, p, 0, "stays")
}

// P8.1: a buffer that isn't held, or isn't there, is nobody's.
func TestOwner(t *testing.T) {
	p := made(t, 3)
	gets(t, p, "a", 0)
	gets(t, p, "b", 1)
	if code := p.Put(0); code != api.OK {
		t.Fatalf("Put(0): %v", code)
	}
	for _, i := range []int{math.MinInt, -1, 0, 2, 3, 4, 256, math.MaxInt} {
		isNobodys(t, p, i, api.ErrOwner)
	}
	if p.Free() != 2 || !slices.Equal(p.Held(), []int{1}) || p.Ever() != 2 {
		t.Errorf("%d free, %v held, %d ever", p.Free(), p.Held(), p.Ever())
	}
	if p.Raw(0) != noughts || p.Raw(2) != noughts {
		t.Error("a free buffer was written to")
	}
	reads(t, p, 1, "b")
}

// P8.1, P8.3: a buffer that is put back has noughts alone, also when it is held again.
func TestPutClears(t *testing.T) {
	p := made(t, 2)
	gets(t, p, pattern(512), 0)
	gets(t, p, pattern(512), 1)
	if code := p.Put(0); code != api.OK || p.Raw(0) != noughts {
		t.Errorf("Put(0): %v, %q", code, p.Raw(0))
	}
	gets(t, p, "", 0)
	reads(t, p, 0, "")
	p.Write(0, pattern(512))
	p.Write(0, "short")
	if code := p.Put(0); code != api.OK || p.Raw(0) != noughts {
		t.Errorf("Put(0) behind Write: %v, %q", code, p.Raw(0))
	}
	gets(t, p, "ab", 0)
	reads(t, p, 0, "ab")
	reads(t, p, 1, pattern(512))
}

// P8.2: Raw has all bytes of a buffer, and none of no buffer.
func TestRaw(t *testing.T) {
	p := made(t, 2)
	gets(t, p, "a", 0)
	if got := p.Raw(0); got != "a"+noughts[1:] {
		t.Errorf("Raw(0): %q", got)
	}
	if got := p.Raw(1); got != noughts {
		t.Errorf("Raw(1): %q", got)
	}
	for _, i := range []int{math.MinInt, -1, 2, 3, 512, math.MaxInt} {
		if got := p.Raw(i); got != "" {
			t.Errorf("Raw(%d): %q", i, got)
		}
	}
}

// P8.2: of nil ErrNil, none, 0.
func TestNil(t *testing.T) {
	var p *pool.Pool
	refuses(t, p, "a", api.ErrNil)
	refuses(t, p, pattern(513), api.ErrNil)
	for _, i := range []int{math.MinInt, -1, 0, 1, math.MaxInt} {
		isNobodys(t, p, i, api.ErrNil)
		if got := p.Raw(i); got != "" {
			t.Errorf("Raw(%d) of nil: %q", i, got)
		}
	}
	if p.Free() != 0 || len(p.Held()) != 0 || p.Ever() != 0 {
		t.Errorf("nil: %d free, %v held, %d ever", p.Free(), p.Held(), p.Ever())
	}
}

// The rule of memory: a list that was answered is nobody else's.
func TestHeldIsNew(t *testing.T) {
	p := made(t, 3)
	gets(t, p, "a", 0)
	gets(t, p, "b", 1)
	l := p.Held()
	l[0] = 9
	_ = append(l, 8)
	if got := p.Held(); !slices.Equal(got, []int{0, 1}) {
		t.Errorf("Held: %v", got)
	}
	text, _ := p.Read(0)
	p.Write(0, "z")
	p.Put(1)
	if text != "a" || l[1] != 1 {
		t.Errorf("an answer became another one: %q, %v", text, l)
	}
}

// Pools are by themselves.
func TestTwoPools(t *testing.T) {
	a, b := made(t, 2), made(t, 2)
	gets(t, a, "a", 0)
	if b.Free() != 2 || b.Ever() != 0 || b.Raw(0) != noughts {
		t.Error("one pool's text is another's")
	}
	gets(t, b, "b", 0)
	reads(t, a, 0, "a")
	reads(t, b, 0, "b")
}

// model is a pool as the chapter tells it: the texts of those that are held.
type model struct {
	n     int
	texts map[int]string
	ever  uint64
}

// get: the number that Get must answer, and its error.
func (m *model) get(s string) (int, api.Errno) {
	if len(s) > 512 {
		return 0, api.ErrLong
	}
	for i := range m.n {
		if _, held := m.texts[i]; !held {
			m.texts[i] = s
			m.ever++
			return i, api.OK
		}
	}
	return 0, api.ErrEmpty
}

// write: what Write must answer.
func (m *model) write(i int, s string) api.Errno {
	if _, held := m.texts[i]; !held {
		return api.ErrOwner
	}
	if len(s) > 512 {
		return api.ErrLong
	}
	m.texts[i] = s
	return api.OK
}

// put: what Put must answer.
func (m *model) put(i int) api.Errno {
	if _, held := m.texts[i]; !held {
		return api.ErrOwner
	}
	delete(m.texts, i)
	return api.OK
}

// agrees: the pool is as the model, in all that can be asked of it.
func (m *model) agrees(t *testing.T, p *pool.Pool) {
	t.Helper()
	var held []int
	for i := -1; i <= m.n; i++ {
		text, is := m.texts[i]
		raw, code := "", api.ErrOwner
		if is {
			held, code = append(held, i), api.OK
		}
		if i >= 0 && i < m.n {
			raw = text + noughts[len(text):]
		}
		if got, c := p.Read(i); got != text || c != code {
			t.Fatalf("Read(%d): %q, %v, wanted %q, %v", i, got, c, text, code)
		}
		if got := p.Raw(i); got != raw {
			t.Fatalf("Raw(%d): %q, wanted %q", i, got, raw)
		}
	}
	if !slices.Equal(p.Held(), held) || p.Free() != m.n-len(held) || p.Ever() != m.ever {
		t.Fatalf("%v held, %d free, %d ever, wanted %v, %d, %d", p.Held(), p.Free(), p.Ever(), held, m.n-len(held), m.ever)
	}
}

// P8.1, P8.2, P8.3: whatever is asked in whatever order, the pool is what the chapter says; those that are held and those that are free are all.
func TestAnyOrder(t *testing.T) {
	r := rand.New(rand.NewSource(8))
	for round := range 40 {
		n := 1 + round%9
		p, m := made(t, n), &model{n: n, texts: map[int]string{}}
		for range 200 {
			i, s := r.Intn(n+2)-1, pattern(513)[r.Intn(514):]
			switch r.Intn(5) {
			case 0, 1:
				wanted, code := m.get(s)
				if got, c := p.Get(s); got != wanted || c != code {
					t.Fatalf("Get: %d, %v, wanted %d, %v", got, c, wanted, code)
				}
			case 2, 3:
				if got, code := p.Put(i), m.put(i); got != code {
					t.Fatalf("Put(%d): %v, wanted %v", i, got, code)
				}
			case 4:
				if got, code := p.Write(i, s), m.write(i, s); got != code {
					t.Fatalf("Write(%d): %v, wanted %v", i, got, code)
				}
			}
			m.agrees(t, p)
		}
	}
}
