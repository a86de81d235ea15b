package delta_test

import (
	"math/rand"
	"strings"
	"testing"

	"vagabond/api"
	"vagabond/delta"
	"vagabond/screen"
)

// shows: a screen of so many columns and rows, behind output.
func shows(t *testing.T, w, h int, out string) screen.Screen {
	t.Helper()
	s, code := screen.New(w, h)
	if code != api.OK {
		t.Fatalf("New(%d, %d): %v", w, h, code)
	}
	return s.Put(out)
}

// leads: that is the delta from a to b, by all four calls.
func leads(t *testing.T, a, b screen.Screen, d string) {
	t.Helper()
	if got := delta.Of(a, b); got != d {
		t.Errorf("Of %q, %q: %q, wanted %q", a.Text(), b.Text(), got, d)
	}
	if got := delta.Size(a, b); got != len(d) {
		t.Errorf("Size of %q, %q: %d, wanted %d", a.Text(), b.Text(), got, len(d))
	}
	got, code := delta.Do(a, d)
	if code != api.OK || !screen.Same(got, b) {
		t.Errorf("Do %q, %q: %q, %v, wanted %q", a.Text(), d, got.Text(), code, b.Text())
	}
}

// refuses: that is no delta from a screen.
func refuses(t *testing.T, a screen.Screen, d string) {
	t.Helper()
	got, code := delta.Do(a, d)
	if code != api.ErrForm || !screen.Same(got, screen.Screen{}) {
		t.Errorf("Do %q, %q: %q, %v", a.Text(), d, got.Text(), code)
	}
}

// P12.1: of screens of one size, the cursor and the runs.
func TestDeltaOfOneSize(t *testing.T) {
	blank := shows(t, 3, 2, "")
	for _, c := range []struct{ from, to, d string }{
		{"", "", "d\x00\x00"},
		{"abcd", "abcd", "d\x01\x01"},
		{"", "\n", "d\x00\x01"},
		{"ab", "ab\b", "d\x01\x00"},
		{"", "a", "d\x01\x00\x00\x00\x01a"},
		{"a", "", "d\x00\x00\x00\x00\x01 "},
		{"", "ab", "d\x02\x00\x00\x00\x02ab"},
		{"", " b", "d\x02\x00\x00\x01\x01b"},
		{"", "a c", "d\x00\x01\x00\x00\x01a\x00\x02\x01c"},
		{"", "abcde", "d\x02\x01\x00\x00\x03abc\x01\x00\x02de"},
		{"abc\bx", "xyz", "d\x00\x01\x00\x00\x03xyz\x01\x00\x01 "},
		{"abcdef", "axcdef", "d\x00\x01"},
	} {
		a, b := blank.Put(c.from), blank.Put(c.to)
		leads(t, a, b, c.d)
	}
}

// P12.1: a run ends at its row's end, though the next row's first place differs too; all of a row is one run.
func TestRunsStayInTheirRow(t *testing.T) {
	full := strings.Repeat("x", 80)
	leads(t, shows(t, 80, 2, ""), shows(t, 80, 2, full+"y"), "d\x01\x01\x00\x00\x50"+full+"\x01\x00\x01y")
	leads(t, shows(t, 1, 3, ""), shows(t, 1, 3, "ab"), "d\x00\x02\x00\x00\x01a\x01\x00\x01b")
	leads(t, shows(t, 3, 3, ""), shows(t, 3, 3, "\n\nab"), "d\x02\x02\x02\x00\x02ab")
}

// P12.1: of screens of unlike sizes, the new one's text.
func TestDeltaOfOtherSize(t *testing.T) {
	a := shows(t, 3, 2, "abcd")
	for _, b := range []screen.Screen{
		shows(t, 2, 1, "x"), shows(t, 2, 2, ""), shows(t, 3, 1, "ab"), shows(t, 3, 3, ""), shows(t, 2, 3, "abcd"), shows(t, 6, 1, "abcd"), shows(t, 80, 24, "hi"),
	} {
		leads(t, a, b, "f"+b.Text())
		leads(t, b, a, "f\x03\x02\x01\x01abcd  ")
	}
}

// P12.1: ErrForm of what isn't the delta to any screen.
func TestDoRefuses(t *testing.T) {
	a := shows(t, 3, 2, "ab")
	for what, l := range map[string][]string{
		"too short, or of no kind":      {"", "d", "d\x00", "x", "x\x00\x00", "D\x00\x00", "\x00\x00\x00", "f"},
		"the cursor isn't in a place":   {"d\x03\x00", "d\x00\x02", "d\xff\x00", "d\x00\xff"},
		"a run is cut off":              {"d\x00\x00\x00", "d\x00\x00\x00\x00", "d\x00\x00\x00\x00\x01", "d\x00\x00\x00\x00\x02x", "d\x00\x00\x00\x00\x01x\x00"},
		"a run has no places":           {"d\x00\x00\x00\x00\x00", "d\x00\x00\x01\x03\x00", "d\x00\x00\x02\x00\x00", "d\x00\x00\x00\x00\x01x\x00\x02\x00"},
		"a run isn't in its row":        {"d\x00\x00\x00\x02\x02xy", "d\x00\x00\x00\x03\x01x", "d\x00\x00\x00\x00\x04xyzx", "d\x00\x00\x01\x02\x02xy", "d\x00\x00\x00\xff\x01x"},
		"a run is in no row":            {"d\x00\x00\x02\x00\x01x", "d\x00\x00\xff\x00\x01x"},
		"places don't differ":           {"d\x00\x00\x00\x00\x01a", "d\x00\x00\x00\x00\x02xb", "d\x00\x00\x00\x00\x02ay", "d\x00\x00\x00\x00\x03xbz", "d\x00\x00\x00\x02\x01 "},
		"runs aren't as long as may be": {"d\x00\x00\x00\x00\x01x\x00\x01\x01y"},
		"runs don't rise":               {"d\x00\x00\x01\x00\x01x\x00\x00\x01x", "d\x00\x00\x00\x02\x01x\x00\x00\x01x", "d\x00\x00\x00\x00\x01x\x00\x00\x01y", "d\x00\x00\x00\x00\x01x\x00\x00\x01a"},
		"bytes that none may have":      {"d\x00\x00\x00\x00\x01\x1f", "d\x00\x00\x00\x00\x01\x7f", "d\x00\x00\x00\x00\x01\n", "d\x00\x00\x00\x00\x01\xff"},
		"more behind it":                {"d\x00\x00x", "d\x00\x00\x00\x00\x01xy", "f\x01\x01\x00\x00  "},
		"a text of the same size":       {"f" + a.Text(), "f" + a.Put("x").Text()},
		"no screen's text":              {"f\x00\x00\x00\x00", "f\x01\x01\x00\x00", "f\x01\x01\x01\x00 ", "f\x01\x01\x00\x00\n", "f\x51\x01\x00\x00" + strings.Repeat(" ", 81), "ff\x01\x01\x00\x00 "},
	} {
		for _, d := range l {
			t.Run(what, func(t *testing.T) { refuses(t, a, d) })
		}
	}
	leads(t, a, shows(t, 3, 2, "xy\r"), "d\x00\x00\x00\x00\x02xy")
}

// P12.1: a delta hangs on the screen that it leads from.
func TestDoHangsOnScreen(t *testing.T) {
	d := delta.Of(shows(t, 3, 2, ""), shows(t, 3, 2, "ab"))
	for _, other := range []screen.Screen{shows(t, 3, 2, "a"), shows(t, 3, 2, "ab"), shows(t, 3, 2, "xb"), shows(t, 1, 2, "")} {
		refuses(t, other, d)
	}
	leads(t, shows(t, 3, 2, "x"), shows(t, 3, 2, "ab"), d)
}

// P12.1: Empty tells whether it turns no place.
func TestEmpty(t *testing.T) {
	for _, d := range []string{"d\x00\x00", "d\x02\x01", "d\xff\xff", "ddd"} {
		if !delta.Empty(d) {
			t.Errorf("Empty of %q: false", d)
		}
	}
	a := shows(t, 3, 2, "ab")
	for _, d := range []string{"", "d", "d\x00", "f\x00\x00", "x\x00\x00", "f", "d\x00\x00x", "d\x01\x00\x00\x00\x01a", "f\x01\x01\x00\x00 ", delta.Of(a, a.Put("x"))} {
		if delta.Empty(d) {
			t.Errorf("Empty of %q: true", d)
		}
	}
	if !delta.Empty(delta.Of(a, a)) || !delta.Empty(delta.Of(a, a.Put("\r"))) {
		t.Error("of a screen and itself, or its cursor elsewhere, the delta isn't Empty")
	}
}

// random: a screen of few bytes, so that many places are alike.
func random(r *rand.Rand) screen.Screen {
	w, h := 1+r.Intn(5), 1+r.Intn(3)
	text := []byte{byte(w), byte(h), byte(r.Intn(w)), byte(r.Intn(h))}
	for range w * h {
		text = append(text, " a~"[r.Intn(3)])
	}
	s, _ := screen.Parse(string(text))
	return s
}

// modelOf: the delta as it is told: place by place, a run is begun where the one ahead isn't of it.
func modelOf(a, b screen.Screen) string {
	aw, ah := a.Size()
	w, h := b.Size()
	if aw != w || ah != h {
		return "f" + b.Text()
	}
	column, row := b.Cursor()
	out := []byte{'d', byte(column), byte(row)}
	old, now := a.Cells(), b.Cells()
	count := 0
	for i := range w * h {
		if i%w == 0 || old[i] == now[i] {
			count = 0
		}
		if old[i] == now[i] {
			continue
		}
		if count == 0 {
			out = append(out, byte(i/w), byte(i%w), 0)
		}
		count++
		out = append(out, now[i])
		out[len(out)-1-count]++
	}
	return string(out)
}

// P12.1, P12.2: of a and the delta from a to b comes b.
func TestDeltaOfRandomScreens(t *testing.T) {
	r := rand.New(rand.NewSource(122))
	for range 5000 {
		a, b := random(r), random(r)
		leads(t, a, b, modelOf(a, b))
	}
	for range 50 {
		a, b := shows(t, 80, 24, ""), shows(t, 80, 24, "")
		for range r.Intn(3000) {
			a, b = a.Put(string(rune('a'+r.Intn(3)))), b.Put(string(rune('a'+r.Intn(3))))
		}
		leads(t, a, b, modelOf(a, b))
	}
}

// P12.1: whatever d is, what comes of it is a screen of which it is the delta, or ErrForm.
func TestDoOfAnyText(t *testing.T) {
	r := rand.New(rand.NewSource(121))
	done := 0
	for range 50000 {
		a := random(r)
		d := []byte(delta.Of(a, random(r)))
		for range r.Intn(3) {
			i := r.Intn(len(d))
			switch r.Intn(3) {
			case 0:
				d[i] = "\x00\x01\x02\x03 a~df"[r.Intn(9)]
			case 1:
				d = append(d[:i], d[min(i+1, len(d)-1):]...)
			default:
				d = append(d, d[i])
			}
		}
		b, code := delta.Do(a, string(d))
		switch {
		case code == api.OK && delta.Of(a, b) == string(d):
			done++
		case code == api.ErrForm && screen.Same(b, screen.Screen{}):
		default:
			t.Fatalf("Do %q, %q: %q, %v", a.Text(), d, b.Text(), code)
		}
	}
	if done < 1000 || done > 49000 {
		t.Errorf("%d were done", done)
	}
}

// P1: none panics, of the zero screen neither.
func TestZeroScreens(t *testing.T) {
	var z screen.Screen
	a := shows(t, 3, 2, "ab")
	for _, s := range []screen.Screen{z, a} {
		delta.Of(z, s)
		delta.Of(s, z)
		delta.Size(z, s)
		delta.Size(s, z)
	}
	for _, d := range []string{"", "d\x00\x00", "d\x00\x00\x00\x00\x00", "d\x00\x00\x00\x00\x01a", "f\x00\x00\x00\x00", "f" + a.Text()} {
		delta.Do(z, d)
	}
}

// Memory: the screens that are asked of stay as they were.
func TestScreensStay(t *testing.T) {
	a := shows(t, 3, 2, "ab")
	was := a.Text()
	delta.Of(a, shows(t, 3, 2, "xyz"))
	delta.Do(a, "d\x00\x00\x00\x00\x02xy")
	delta.Do(a, "d\x00\x00\x00\x00\x02xb")
	if a.Text() != was {
		t.Errorf("a screen became %q", a.Text())
	}
}
