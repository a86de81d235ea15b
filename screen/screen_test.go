package screen_test

import (
	"math"
	"math/rand"
	"slices"
	"strings"
	"testing"
	"unsafe"

	"vagabond/api"
	"vagabond/screen"
)

// blank: a screen of so many columns and rows.
func blank(t *testing.T, w, h int) screen.Screen {
	t.Helper()
	s, code := screen.New(w, h)
	if code != api.OK {
		t.Fatalf("New(%d, %d): %v", w, h, code)
	}
	return s
}

// stands: a screen has those rows, and its cursor there.
func stands(t *testing.T, what string, s screen.Screen, column, row int, rows ...string) {
	t.Helper()
	if got := s.Rows(); !slices.Equal(got, rows) {
		t.Errorf("%s: rows %q, wanted %q", what, got, rows)
	}
	if got := s.Cells(); got != strings.Join(rows, "") {
		t.Errorf("%s: cells %q, wanted %q", what, got, rows)
	}
	if x, y := s.Cursor(); x != column || y != row {
		t.Errorf("%s: the cursor at %d, %d, wanted %d, %d", what, x, y, column, row)
	}
}

// P11.1: a new one is blank, the cursor at its beginning.
func TestNewIsBlank(t *testing.T) {
	for _, size := range [][2]int{{1, 1}, {3, 2}, {80, 24}, {80, 1}, {1, 24}} {
		w, h := size[0], size[1]
		s := blank(t, w, h)
		if x, y := s.Size(); x != w || y != h {
			t.Errorf("Size of %v: %d, %d", size, x, y)
		}
		stands(t, "new", s, 0, 0, slices.Repeat([]string{strings.Repeat(" ", w)}, h)...)
	}
}

// P11.1: ErrRange of other sizes, and the zero screen beside it.
func TestNewRefusesSizes(t *testing.T) {
	for _, size := range [][2]int{
		{0, 1}, {1, 0}, {0, 0}, {81, 1}, {1, 25}, {81, 25}, {-1, 1}, {1, -1}, {-3, -2},
		{math.MaxInt, 1}, {1, math.MaxInt}, {math.MinInt, 1}, {1, math.MinInt}, {256 + 3, 2}, {3, 256 + 2},
	} {
		s, code := screen.New(size[0], size[1])
		if code != api.ErrRange || !screen.Same(s, screen.Screen{}) {
			t.Errorf("New of %v: %v, %v", size, s, code)
		}
	}
}

// P11.1: output, byte by byte.
func TestPut(t *testing.T) {
	for _, c := range []struct {
		out         string
		column, row int
		rows        []string
	}{
		{"", 0, 0, []string{"   ", "   "}},
		{"a", 1, 0, []string{"a  ", "   "}},
		{"abc", 0, 1, []string{"abc", "   "}},
		{"abcd", 1, 1, []string{"abc", "d  "}},
		{"abcdef", 0, 1, []string{"def", "   "}},
		{"abcdefg", 1, 1, []string{"def", "g  "}},
		{"a\n", 0, 1, []string{"a  ", "   "}},
		{"a\nb\n", 0, 1, []string{"b  ", "   "}},
		{"a\nb\n\n", 0, 1, []string{"   ", "   "}},
		{"abc\n", 0, 1, []string{"   ", "   "}},
		{"ab\rc", 1, 0, []string{"cb ", "   "}},
		{"abcd\r", 0, 1, []string{"abc", "d  "}},
		{"ab\b", 1, 0, []string{"ab ", "   "}},
		{"ab\bc", 2, 0, []string{"ac ", "   "}},
		{"\b\ba", 1, 0, []string{"a  ", "   "}},
		{"abc\b", 0, 1, []string{"abc", "   "}},
		{"abcd\b\b\bx", 1, 1, []string{"abc", "x  "}},
		{"abcd\f", 0, 0, []string{"   ", "   "}},
		{"abcd\fe", 1, 0, []string{"e  ", "   "}},
		{" ~", 2, 0, []string{" ~ ", "   "}},
		{"a ", 2, 0, []string{"a  ", "   "}},
		{"ab\r ", 1, 0, []string{" b ", "   "}},
	} {
		s := blank(t, 3, 2)
		stands(t, c.out, s.Put(c.out), c.column, c.row, c.rows...)
		stands(t, "as it was", s, 0, 0, "   ", "   ")
	}
}

// P11.1: on one place, everything is the last one.
func TestPutOnOnePlace(t *testing.T) {
	s := blank(t, 1, 1)
	for _, out := range []string{"a", "abc", "\n", "\b", "\r", "\f", "a\n", "\ba"} {
		stands(t, out, s.Put(out), 0, 0, " ")
	}
}

// P11.1: bytes that are neither shown nor told change nothing, wherever the cursor is.
func TestPutPassesOthersBy(t *testing.T) {
	for c := range 256 {
		if c >= 32 && c <= 126 || c == 8 || c == 10 || c == 12 || c == 13 {
			continue
		}
		for _, ahead := range []string{"", "ab", "abcde"} {
			s := blank(t, 3, 2).Put(ahead)
			if got := s.Put(string([]byte{byte(c)})); !screen.Same(got, s) {
				t.Errorf("the byte %d behind %q: %q", c, ahead, got.Rows())
			}
			if got := s.Put(string([]byte{byte(c), 'x', byte(c)})); !screen.Same(got, s.Put("x")) {
				t.Errorf("the byte %d around x behind %q: %q", c, ahead, got.Rows())
			}
		}
	}
}

// P11.1: every byte from 32 to 126 stands there then.
func TestPutShows(t *testing.T) {
	for c := 32; c <= 126; c++ {
		text := string([]byte{byte(c)})
		stands(t, text, blank(t, 2, 1).Put(text), 1, 0, text+" ")
	}
}

// P11.1: nothing changes the zero one.
func TestZeroScreen(t *testing.T) {
	var z screen.Screen
	for _, out := range []string{"", "a", "\n", "\b", "\r", "\f", "abc\n\fd"} {
		got := z.Put(out)
		w, h := got.Size()
		x, y := got.Cursor()
		if w != 0 || h != 0 || x != 0 || y != 0 || got.Cells() != "" || len(got.Rows()) != 0 || !screen.Same(got, z) {
			t.Errorf("the zero one behind %q: %v", out, got)
		}
	}
}

// P11.1: two are the same by all that they have.
func TestSame(t *testing.T) {
	s := blank(t, 3, 2)
	for _, same := range [][2]screen.Screen{
		{s, s}, {s, blank(t, 3, 2)}, {s, s.Put("abc\f")}, {s.Put("ab"), s.Put("a").Put("b")}, {s.Put("a\r "), s.Put("b\b ")}, {{}, {}},
	} {
		if !screen.Same(same[0], same[1]) {
			t.Errorf("%v and %v aren't the same", same[0], same[1])
		}
	}
	for _, other := range []screen.Screen{
		{}, blank(t, 2, 3), blank(t, 6, 1), blank(t, 3, 1), s.Put("a"), s.Put("a\b"), s.Put(" "), s.Put("\n"), s.Put("\na\r"), s.Put("\n\n"),
	} {
		if screen.Same(s, other) || screen.Same(other, s) {
			t.Errorf("%v and %v are the same", s, other)
		}
	}
}

// P11.2: a text tells all of a screen, and is read again.
func TestText(t *testing.T) {
	long := strings.Repeat("x", 80*24-1)
	for _, c := range []struct {
		screen screen.Screen
		text   string
	}{
		{blank(t, 1, 1), "\x01\x01\x00\x00 "},
		{blank(t, 3, 2).Put("abcd"), "\x03\x02\x01\x01abcd  "},
		{blank(t, 2, 3).Put("a\n~"), "\x02\x03\x01\x01a ~   "},
		{blank(t, 80, 24).Put(long), "\x50\x18\x4f\x17" + long + " "},
	} {
		if got := c.screen.Text(); got != c.text {
			t.Errorf("Text: %q, wanted %q", got, c.text)
		}
		got, code := screen.Parse(c.text)
		if code != api.OK || !screen.Same(got, c.screen) {
			t.Errorf("Parse of %q: %v, %v", c.text, got, code)
		}
	}
}

// P11.2: the zero one has a text too, but none is read of it.
func TestTextOfZero(t *testing.T) {
	if got := (screen.Screen{}).Text(); got != "\x00\x00\x00\x00" {
		t.Errorf("Text of the zero one: %q", got)
	}
}

// P11.2: ErrForm of what is no screen's text, and the zero screen beside it.
func TestParseRefuses(t *testing.T) {
	for _, text := range []string{
		"", "\x01", "\x01\x01", "\x01\x01\x00", "\x00\x00\x00\x00", "\x01\x01\x00\x00",
		"\x00\x01\x00\x00", "\x01\x00\x00\x00", "\x00\x00\x00\x00 ",
		"\x01\x01\x00\x00  ", "\x03\x02\x00\x00     ", "\x03\x02\x00\x00       ",
		"\x03\x02\x03\x00      ", "\x03\x02\x00\x02      ", "\x03\x02\xff\x00      ", "\x03\x02\x00\xff      ",
		"\x51\x01\x00\x00" + strings.Repeat(" ", 81), "\x01\x19\x00\x00" + strings.Repeat(" ", 25),
		"\xff\x01\x00\x00" + strings.Repeat(" ", 255),
		"\x01\x01\x00\x00\x1f", "\x01\x01\x00\x00\x7f", "\x01\x01\x00\x00\n", "\x01\x01\x00\x00\x00", "\x01\x01\x00\x00\xff",
		"\x02\x01\x00\x00\xc3\xa9", "\x02\x01\x00\x00a\x80", "\x02\x01\x00\x00\x80a",
	} {
		s, code := screen.Parse(text)
		if code != api.ErrForm || !screen.Same(s, screen.Screen{}) {
			t.Errorf("Parse of %q: %v, %v", text, s, code)
		}
	}
}

// P11.2: a text that is read is the screen's that it was read to, whatever bytes stand there.
func TestParseOfAnyText(t *testing.T) {
	r := rand.New(rand.NewSource(112))
	read := 0
	for range 20000 {
		w, h := r.Intn(4), r.Intn(3)
		text := []byte{byte(w), byte(h), byte(r.Intn(w + 1)), byte(r.Intn(h + 1))}
		for range w*h + r.Intn(8)/7 {
			text = append(text, byte(30+r.Intn(30)*98/29))
		}
		s, code := screen.Parse(string(text))
		if code == api.OK && s.Text() != string(text) || code != api.OK && code != api.ErrForm {
			t.Fatalf("Parse of %q: %q, %v", text, s.Text(), code)
		}
		if code == api.OK {
			read++
		}
	}
	if read < 1000 {
		t.Errorf("but %d texts were read", read)
	}
}

// model is a screen told plainly: a list of rows.
type model struct {
	rows        [][]byte
	column, row int
}

// fresh: a blank row.
func fresh(w int) []byte { return []byte(strings.Repeat(" ", w)) }

// modelOf: a blank model.
func modelOf(w, h int) *model {
	m := &model{}
	for range h {
		m.rows = append(m.rows, fresh(w))
	}
	return m
}

// next: the cursor to the next row's beginning.
func (m *model) next() {
	m.column = 0
	m.row++
	if m.row == len(m.rows) {
		m.rows = append(m.rows[1:], fresh(len(m.rows[0])))
		m.row--
	}
}

// put: one byte of output.
func (m *model) put(c byte) {
	w := len(m.rows[0])
	switch {
	case c >= 32 && c <= 126:
		m.rows[m.row][m.column] = c
		m.column++
		if m.column == w {
			m.next()
		}
	case c == 10:
		m.next()
	case c == 13:
		m.column = 0
	case c == 8 && m.column > 0:
		m.column--
	case c == 12:
		*m = *modelOf(w, len(m.rows))
	}
}

// output: some, of all kinds of bytes.
func output(r *rand.Rand, n int) string {
	out := make([]byte, n)
	for i := range out {
		switch r.Intn(8) {
		case 0:
			out[i] = "\x08\x0a\x0d\x08\x0a\x0d\x0a\x0c"[r.Intn(8)]
		case 1:
			out[i] = byte(r.Intn(256))
		default:
			out[i] = byte(32 + r.Intn(95))
		}
	}
	return string(out)
}

// P11.1: output of all kinds, on screens of many sizes, as on a model that is told plainly.
func TestPutAsModel(t *testing.T) {
	r := rand.New(rand.NewSource(111))
	for range 2000 {
		w, h := 1+r.Intn(6), 1+r.Intn(4)
		if r.Intn(50) == 0 {
			w, h = 80, 24
		}
		s, m := blank(t, w, h), modelOf(w, h)
		out := output(r, r.Intn(3*w*h))
		for i := range len(out) {
			m.put(out[i])
		}
		rows := make([]string, h)
		for i, row := range m.rows {
			rows[i] = string(row)
		}
		stands(t, out, s.Put(out), m.column, m.row, rows...)
	}
}

// P11.3: output in parts is as output at once.
func TestPutInParts(t *testing.T) {
	r := rand.New(rand.NewSource(113))
	for range 500 {
		s := blank(t, 1+r.Intn(6), 1+r.Intn(4))
		out := output(r, r.Intn(60))
		at := r.Intn(len(out) + 1)
		parts, bytes := s.Put(out[:at]).Put(out[at:]), s
		for i := range len(out) {
			bytes = bytes.Put(out[i : i+1])
		}
		if once := s.Put(out); !screen.Same(once, parts) || !screen.Same(once, bytes) {
			t.Fatalf("%q at once, and in parts at %d: %q, %q, %q", out, at, once.Rows(), parts.Rows(), bytes.Rows())
		}
	}
}

// Memory: what is answered shares none with another answer, nor with what was handed in.
func TestAnswersAreNewMemory(t *testing.T) {
	s := blank(t, 3, 2).Put("abcd")
	if unsafe.StringData(s.Cells()) == unsafe.StringData(s.Cells()) {
		t.Error("two Cells share memory")
	}
	rows := s.Rows()
	rows[0] = "xyz"
	if got := s.Rows(); got[0] != "abc" || unsafe.StringData(got[1]) == unsafe.StringData(rows[1]) {
		t.Errorf("two Rows share memory: %q", got)
	}
	text := []byte(s.Text())
	p, code := screen.Parse(unsafe.String(&text[0], len(text)))
	text[4] = 'x'
	if code != api.OK || p.Cells() != "abcd  " {
		t.Errorf("a screen keeps the text that it was read of: %q, %v", p.Cells(), code)
	}
}
