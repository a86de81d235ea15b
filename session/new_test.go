package session_test

import (
	"reflect"
	"strings"
	"testing"

	"vagabond/api"
	"vagabond/clock"
	"vagabond/keys"
	"vagabond/screen"
	"vagabond/sender"
	"vagabond/session"
)

// P17.1: what New refuses, and what it doesn't, at the edges.
func TestNewAtTheEdges(t *testing.T) {
	with := func(change func(*session.Setting)) session.Setting {
		set := setting()
		change(&set)
		return set
	}
	cases := []struct {
		what, key string
		set       session.Setting
		wanted    api.Errno
	}{
		{"no key", "", setting(), api.ErrArg},
		{"a key of a byte", "\x00", setting(), api.OK},
		{"a key of 64 bytes", strings.Repeat("k", 64), setting(), api.OK},
		{"a key of 65 bytes", strings.Repeat("k", 65), setting(), api.ErrArg},
		{"no columns", key, with(func(s *session.Setting) { s.Width = 0 }), api.ErrRange},
		{"a column", key, with(func(s *session.Setting) { s.Width = 1 }), api.OK},
		{"80 columns", key, with(func(s *session.Setting) { s.Width = 80 }), api.OK},
		{"81 columns", key, with(func(s *session.Setting) { s.Width = 81 }), api.ErrRange},
		{"no rows", key, with(func(s *session.Setting) { s.Height = 0 }), api.ErrRange},
		{"a row", key, with(func(s *session.Setting) { s.Height = 1 }), api.OK},
		{"24 rows", key, with(func(s *session.Setting) { s.Height = 24 }), api.OK},
		{"25 rows", key, with(func(s *session.Setting) { s.Height = 25 }), api.ErrRange},
		{"fewer rows than none", key, with(func(s *session.Setting) { s.Height = -1 }), api.ErrRange},
		{"room for 127", key, with(func(s *session.Setting) { s.Room = 127 }), api.ErrRange},
		{"room for 128", key, with(func(s *session.Setting) { s.Room = 128 }), api.OK},
		{"room for 466", key, with(func(s *session.Setting) { s.Room = 466 }), api.OK},
		{"room for 467", key, with(func(s *session.Setting) { s.Room = 467 }), api.ErrRange},
		{"room below none", key, with(func(s *session.Setting) { s.Room = -200 }), api.ErrRange},
		{"Most of 0", key, with(func(s *session.Setting) { s.Most = 0 }), api.ErrRange},
		{"Most of 1", key, with(func(s *session.Setting) { s.Most = 1 }), api.OK},
		{"the greatest Most", key, with(func(s *session.Setting) { s.Most = 1<<63 - 1 }), api.OK},
		{"a greater Most", key, with(func(s *session.Setting) { s.Most = 1 << 63 }), api.ErrRange},
		{"no Beat", key, with(func(s *session.Setting) { s.Beat = 0 }), api.OK},
		{"the greatest Beat", key, with(func(s *session.Setting) { s.Beat = greatest }), api.OK},
		{"no key, and nothing else", "", session.Setting{}, api.ErrArg},
		{"a key, and nothing else", key, session.Setting{}, api.ErrRange},
	}
	for _, c := range cases {
		s, code := session.New(own, c.key, c.set, 9)
		if code != c.wanted {
			t.Errorf("%s: %v, wanted %v", c.what, code, c.wanted)
		}
		if code != api.OK && !reflect.DeepEqual(s, session.Session{}) {
			t.Errorf("%s: a session beside an error", c.what)
		}
		if w, h := s.Screen().Size(); code == api.OK && (w != c.set.Width || h != c.set.Height) {
			t.Errorf("%s: a screen of %d by %d", c.what, w, h)
		}
	}
}

// P17.1: a new one; the example: it has no peer, and sends nothing.
func TestNew(t *testing.T) {
	s, code := session.New(77, key, setting(), 1234)
	blank, _ := screen.New(12, 3)
	if code != api.OK || s.ID() != 77 || s.Seen() != 1234 || !screen.Same(s.Screen(), blank) {
		t.Errorf("a new one: %v, %s", code, shows(s))
	}
	if s.Keys() != (keys.Keys{}) || s.Clock() != (clock.Clock{}) {
		t.Errorf("a new one has keys %v, a clock %v", s.Keys(), s.Clock())
	}
	if peer, known := s.Peer(); known || peer != (api.Addr{}) {
		t.Errorf("a new one has the peer %v", peer)
	}
	if closing, done, spent := s.State(); closing || done || spent {
		t.Error("a new one is closing, or done, or spent")
	}
	if next, expect := s.Next(); next != 0 || expect != 0 {
		t.Errorf("a new one: Next %d, %d", next, expect)
	}
	if s.Due() != greatest {
		t.Errorf("a new one: Due %d", s.Due())
	}
	silent(t, "a new one", s, greatest)
}

// P17.1: of the sender's Last and sent ticks: 0, at whatever tick the session is made.
func TestNewSenderBeganAtNought(t *testing.T) {
	s, _ := session.New(own, key, setting(), 7000)
	s = takes(t, "the first", s, whole(t, 0, sender.Instr{}), 7000, session.Told{Moved: true})
	if s.Due() != 500 {
		t.Errorf("Due %d, wanted 500", s.Due())
	}
	silent(t, "ahead of the beat", s, 499)
	sends(t, "at the beat", s, 500, 128, out{number: 1, stamp: 500, reply: uint16(500 + 65536 - 7000), instr: sender.Instr{Diff: nothing}})
}

// A zero one, as New answers beside an error: no call panics, nothing is taken or sent.
func TestZeroSession(t *testing.T) {
	s, _ := session.New(0, "", session.Setting{}, 0)
	for _, s := range []session.Session{s, s.Close()} {
		if _, told, code := s.Take(home, sealed(t, 0, "\x00", 0, strings.Repeat("\x00", 14)), 0); code != api.ErrNone || told != (session.Told{}) {
			t.Errorf("Take: %v, %v", told, code)
		}
		silent(t, "zero", s, greatest)
		if s.Due() != greatest || s.Keys() != (keys.Keys{}) {
			t.Errorf("zero: %s", shows(s))
		}
	}
	next, code := s.Write("a")
	if code != api.OK || next.Screen() != (screen.Screen{}) {
		t.Errorf("Write: %v, %v", next.Screen(), code)
	}
}
