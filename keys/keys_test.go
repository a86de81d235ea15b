package keys_test

import (
	"math"
	"math/rand"
	"strings"
	"testing"
	"unsafe"

	"vagabond/api"
	"vagabond/keys"
)

// typed: keys behind some texts, each one forgotten up to a number ahead of the next.
func typed(t *testing.T, forget uint64, texts ...string) keys.Keys {
	t.Helper()
	var k keys.Keys
	for _, s := range texts {
		next, code := k.Forget(forget).Type(s)
		if code != api.OK {
			t.Fatalf("Type of %d bytes: %v", len(s), code)
		}
		k = next
	}
	return k.Forget(forget)
}

// holds: keys have those bytes, the first of that number, by all that they tell.
func holds(t *testing.T, what string, k keys.Keys, from uint64, text string) {
	t.Helper()
	end := from + uint64(len(text))
	if a, b := k.Ends(); a != from || b != end {
		t.Fatalf("%s: Ends %d, %d, wanted %d, %d", what, a, b, from, end)
	}
	for n := from; n <= end; n++ {
		if got, code := k.Since(n); got != text[n-from:] || code != api.OK {
			t.Fatalf("%s: Since %d: %q, %v, wanted %q", what, n, got, code, text[n-from:])
		}
	}
	wrong := []uint64{end + 1, end + 256, 1 << 32, 1 << 63, math.MaxUint64}
	if from > 0 {
		wrong = append(wrong, 0, from-1)
	}
	for _, n := range wrong {
		if got, code := k.Since(n); got != "" || code != api.ErrRange {
			t.Fatalf("%s: Since %d of %d to %d: %q, %v", what, n, from, end, got, code)
		}
	}
}

// letters: so many bytes, of which neighbours differ.
func letters(n int) string {
	out := make([]byte, n)
	for i := range out {
		out[i] = byte(i * 7)
	}
	return string(out)
}

// P13.1: the zero ones have none, from 0 to 0.
func TestZeroKeys(t *testing.T) {
	var k keys.Keys
	holds(t, "zero", k, 0, "")
	holds(t, "zero, forgotten", k.Forget(7), 0, "")
	next, code := k.Type("")
	if code != api.OK {
		t.Errorf("Type of nothing: %v", code)
	}
	holds(t, "zero, nothing typed", next, 0, "")
}

// P13.1: what is typed stands behind; any bytes may be.
func TestType(t *testing.T) {
	k := typed(t, 0, "ab")
	holds(t, "ab", k, 0, "ab")
	next, code := k.Type("\x00\xff\n")
	if code != api.OK {
		t.Errorf("Type: %v", code)
	}
	holds(t, "more", next, 0, "ab\x00\xff\n")
	holds(t, "as they were", k, 0, "ab")
}

// P13.1: 256 bytes may be, not one more; beside ErrFull they are as they were.
func TestTypeFull(t *testing.T) {
	for _, c := range []struct {
		has, more int
		code      api.Errno
	}{
		{0, 256, api.OK}, {0, 257, api.ErrFull}, {0, 1000, api.ErrFull}, {1, 255, api.OK}, {1, 256, api.ErrFull},
		{255, 1, api.OK}, {255, 2, api.ErrFull}, {256, 0, api.OK}, {256, 1, api.ErrFull}, {3, 254, api.ErrFull},
	} {
		k := typed(t, 0, letters(c.has))
		more := strings.Repeat("x", c.more)
		got, code := k.Type(more)
		if code != c.code {
			t.Errorf("Type of %d behind %d: %v, wanted %v", c.more, c.has, code, c.code)
		}
		wanted := letters(c.has)
		if c.code == api.OK {
			wanted += more
		}
		holds(t, "behind Type", got, 0, wanted)
		holds(t, "as they were", k, 0, letters(c.has))
	}
}

// P13.1: what is forgotten makes room.
func TestTypeBehindForget(t *testing.T) {
	k := typed(t, 0, letters(256)).Forget(10)
	if _, code := k.Type(letters(11)); code != api.ErrFull {
		t.Errorf("one too many: %v", code)
	}
	next, code := k.Type(letters(10))
	if code != api.OK {
		t.Errorf("as many as were forgotten: %v", code)
	}
	holds(t, "behind both", next, 10, letters(256)[10:]+letters(10))
}

// P13.1: forgotten up to a number, at most up to End.
func TestForget(t *testing.T) {
	k := typed(t, 2, "ab", "cdef")
	holds(t, "to begin with", k, 2, "cdef")
	for _, c := range []struct {
		n, from uint64
		text    string
	}{
		{0, 2, "cdef"}, {1, 2, "cdef"}, {2, 2, "cdef"}, {3, 3, "def"}, {5, 5, "f"}, {6, 6, ""}, {7, 6, ""},
		{1 << 40, 6, ""}, {math.MaxUint64, 6, ""},
	} {
		holds(t, "forgotten", k.Forget(c.n), c.from, c.text)
		holds(t, "as they were", k, 2, "cdef")
	}
	holds(t, "typed behind all", typed(t, 9, "abc", "de"), 5, "")
}

// diff: Diff tells that.
func diff(t *testing.T, a, b keys.Keys, wanted string, code api.Errno) {
	t.Helper()
	if got, e := keys.Diff(a, b); got != wanted || e != code {
		t.Errorf("Diff: %q, %v, wanted %q, %v", got, e, wanted, code)
	}
}

// P13.2: what the one has from the other's End on.
func TestDiff(t *testing.T) {
	a, b := typed(t, 0, "abc"), typed(t, 2, "abc", "def")
	diff(t, a, b, "def", api.OK)
	diff(t, b, a, "", api.ErrRange)
	diff(t, b, b, "", api.OK)
	diff(t, keys.Keys{}, a, "abc", api.OK)
	diff(t, keys.Keys{}, b, "", api.ErrRange)
	diff(t, typed(t, 0, "a"), b, "", api.ErrRange)
	diff(t, typed(t, 0, "xy"), b, "cdef", api.OK)
	diff(t, b.Forget(6), b, "", api.OK)
	diff(t, a.Forget(3), b, "def", api.OK)
	diff(t, keys.Keys{}, keys.Keys{}, "", api.OK)
}

// P13.2: with more behind, at most the last 256.
func TestDo(t *testing.T) {
	for _, c := range []struct{ forget, has, more int }{
		{0, 0, 0}, {0, 0, 3}, {0, 3, 0}, {1, 3, 4}, {3, 3, 4}, {0, 3, 253}, {0, 3, 254}, {0, 256, 1}, {0, 256, 256},
		{7, 256, 7}, {7, 256, 8}, {0, 0, 256}, {0, 0, 257}, {0, 5, 256}, {0, 5, 1000}, {5, 5, 1000}, {200, 256, 5000},
	} {
		a := typed(t, uint64(c.forget), letters(c.has))
		d := strings.Repeat("xyz", c.more)[:c.more]
		got, code := keys.Do(a, d)
		if code != api.OK {
			t.Errorf("Do of %v: %v", c, code)
		}
		all := letters(c.has) + d
		from := max(c.forget, len(all)-256)
		holds(t, "behind Do", got, uint64(from), all[from:])
		holds(t, "as they were", a, uint64(c.forget), letters(c.has)[c.forget:])
	}
}

// P13.2: the same End, and the same bytes where both have them.
func TestSame(t *testing.T) {
	k := typed(t, 0, "abcdef")
	for _, c := range []struct {
		what   string
		a, b   keys.Keys
		wanted bool
	}{
		{"both none", keys.Keys{}, keys.Keys{}, true},
		{"itself", k, k, true},
		{"in parts", k, typed(t, 0, "abc", "", "def"), true},
		{"one forgot", k, k.Forget(4), true},
		{"one forgot all", k, k.Forget(6), true},
		{"both forgot all", k.Forget(6), k.Forget(6), true},
		{"unlike where one forgot", k.Forget(2), typed(t, 0, "xycdef"), true},
		{"unlike all, and one forgot", k.Forget(6), typed(t, 0, "uvwxyz"), true},
		{"unlike ahead of what one forgot", k.Forget(2), typed(t, 0, "xbxdef"), false},
		{"unlike in the last", k.Forget(5), typed(t, 0, "abcdex"), false},
		{"unlike in the first", k, typed(t, 0, "xbcdef"), false},
		{"less", k, typed(t, 0, "abcde"), false},
		{"more", k, typed(t, 0, "abcdefg"), false},
		{"more, forgotten", k, typed(t, 7, "abcdefg"), false},
		{"both forgot all of unlike Ends", k.Forget(6), typed(t, 7, "abcdefg"), false},
		{"as many bytes of other numbers", typed(t, 0, "ab"), typed(t, 2, "abab"), false},
		{"none, and some", keys.Keys{}, typed(t, 0, "a"), false},
		{"none, and none of another End", keys.Keys{}, typed(t, 1, "a"), false},
	} {
		if keys.Same(c.a, c.b) != c.wanted || keys.Same(c.b, c.a) != c.wanted {
			t.Errorf("%s: %v, %v", c.what, keys.Same(c.a, c.b), keys.Same(c.b, c.a))
		}
	}
}

// P13.3: the one and the diff are the other one, whatever was forgotten, and however much it is.
func TestDiffLeads(t *testing.T) {
	r := rand.New(rand.NewSource(133))
	led, refused := 0, 0
	for range 5000 {
		all := letters(r.Intn(250))
		at := r.Intn(len(all) + 1)
		a := typed(t, uint64(r.Intn(at+2)), all[:at])
		b := typed(t, uint64(r.Intn(len(all)+1)), all)
		from, _ := b.Ends()
		d, code := keys.Diff(a, b)
		if uint64(at) < from {
			if d != "" || code != api.ErrRange {
				t.Fatalf("Diff of %d, from %d: %q, %v", at, from, d, code)
			}
			refused++
			continue
		}
		got, e := keys.Do(a, d)
		if code != api.OK || e != api.OK || d != all[at:] || !keys.Same(got, b) || !keys.Same(b, got) {
			t.Fatalf("from %d to %d: %q, %v, %v", at, len(all), d, code, e)
		}
		led++
	}
	if led < 1000 || refused < 1000 {
		t.Errorf("but %d led, and %d were refused", led, refused)
	}
}

// P13.3: both together have more than 256 bytes.
func TestDiffLeadsPastFull(t *testing.T) {
	all := letters(256 + 200)
	a := typed(t, 0, all[:256])
	b := typed(t, 200, all[:200], all[200:])
	d, code := keys.Diff(a, b)
	got, e := keys.Do(a, d)
	if code != api.OK || e != api.OK || !keys.Same(got, b) {
		t.Errorf("%v, %v", code, e)
	}
	holds(t, "behind both", got, 200, all[200:])
}

// P13.1 and P13.2: many asked one behind the other, as of all that was ever typed.
func TestKeysAsModel(t *testing.T) {
	r := rand.New(rand.NewSource(131))
	for range 30 {
		var k keys.Keys
		all, from := "", 0
		for range 60 {
			s := letters(r.Intn(90))
			code, wanted := api.OK, api.OK
			was := k
			switch r.Intn(3) {
			case 0:
				k, code = k.Type(s)
				if len(all)-from+len(s) > 256 {
					wanted = api.ErrFull
				} else {
					all += s
				}
			case 1:
				k, code = keys.Do(k, s)
				all += s
				from = max(from, len(all)-256)
			case 2:
				n := from - 3 + r.Intn(len(all)-from+9)
				k = k.Forget(uint64(max(n, 0)))
				from = min(max(from, n), len(all))
			}
			if code != wanted || code != api.OK && k != was {
				t.Fatalf("%v, wanted %v", code, wanted)
			}
			holds(t, "step", k, uint64(from), all[from:])
		}
	}
}

// Memory: keys keep nothing of what is handed in, and give out nothing that they keep.
func TestKeysMemory(t *testing.T) {
	text := []byte("abc")
	handed := unsafe.String(&text[0], len(text))
	k, code := keys.Keys{}.Type(handed)
	d, e := keys.Do(keys.Keys{}, handed)
	behind, f := keys.Do(k, handed)
	text[0], text[2] = 'x', 'z'
	if code != api.OK || e != api.OK || f != api.OK {
		t.Fatalf("%v, %v, %v", code, e, f)
	}
	holds(t, "typed", k, 0, "abc")
	holds(t, "done", d, 0, "abc")
	holds(t, "done behind", behind, 0, "abcabc")
	one, _ := k.Since(0)
	other, _ := k.Since(0)
	diff, _ := keys.Diff(keys.Keys{}, k)
	if unsafe.StringData(one) == unsafe.StringData(other) || unsafe.StringData(one) == unsafe.StringData(diff) {
		t.Error("two answers share memory")
	}
}
