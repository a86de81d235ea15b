package client_test

import (
	"math/rand"
	"slices"
	"strings"
	"testing"

	"vagabond/api"
	"vagabond/client"
	"vagabond/screen"
	"vagabond/session"
)

// item is a datagram on its way.
type item struct {
	from     api.Addr
	text     string
	toClient bool
}

// talk: a session and a client, with a line between that loses, doubles and turns about.
type talk struct {
	r     *rand.Rand
	s     session.Session
	c     client.Client
	at    api.Addr
	line  []item
	typed strings.Builder
	told  strings.Builder
}

// newTalk: one of a setting.
func newTalk(t *testing.T, seed int64, set session.Setting) *talk {
	t.Helper()
	s, code := session.New(own, key, set, 0)
	if code != api.OK {
		t.Fatal(code)
	}
	return &talk{r: rand.New(rand.NewSource(seed)), s: s, c: started(t, set)}
}

// put: a datagram goes onto the line, or is lost.
func (k *talk) put(x item, lossy bool) {
	if !lossy || k.r.Intn(6) > 0 {
		k.line = append(k.line, x)
	}
}

// send: what is due goes onto the line.
func (k *talk) send(t *testing.T, now uint64, lossy bool) {
	t.Helper()
	c, up := k.c.Send(now)
	s, datagrams, code := k.s.Send(now)
	if code != api.OK {
		t.Fatal(code)
	}
	k.c, k.s = c, s
	for _, text := range up {
		k.put(item{k.at, text, false}, lossy)
	}
	for _, text := range datagrams {
		k.put(item{api.Addr{}, text, true}, lossy)
	}
}

// come: the datagram at a place of the line comes.
func (k *talk) come(x item, now uint64) {
	if x.toClient {
		k.c, _, _ = k.c.Take(x.text, now)
		return
	}
	s, told, _ := k.s.Take(x.from, x.text, now)
	k.s = s
	k.told.WriteString(told.Keys)
}

// deliver: some of what is on the line comes: out of its order, and some of it twice, where the line is lossy.
func (k *talk) deliver(now uint64, lossy bool) {
	for len(k.line) > 0 && (!lossy || k.r.Intn(8) > 0) {
		at := 0
		if lossy && k.r.Intn(4) == 0 {
			at = k.r.Intn(len(k.line))
		}
		k.come(k.line[at], now)
		if !lossy || k.r.Intn(9) > 0 {
			k.line = slices.Delete(k.line, at, at+1)
		}
	}
}

// act: something is typed, or written, or the client roams.
func (k *talk) act(t *testing.T) {
	t.Helper()
	switch k.r.Intn(12) {
	case 0, 1, 2:
		text := strings.Repeat(string(rune('a'+k.r.Intn(26))), 1+k.r.Intn(9))
		c, code := k.c.Type(text)
		if code == api.OK {
			k.c = c
			k.typed.WriteString(text)
		} else if k.c.Pending()+uint64(len(text)) <= 256 {
			t.Fatalf("%d pending, and of %d more: %v", k.c.Pending(), len(text), code)
		}
	case 3, 4, 5:
		text := make([]byte, k.r.Intn(60))
		for i := range text {
			text[i] = byte(k.r.Intn(128))
		}
		s, code := k.s.Write(string(text))
		if code != api.OK {
			t.Fatal(code)
		}
		k.s = s
	case 6:
		k.at = api.Addr{Host: k.r.Uint32(), Port: uint16(k.r.Intn(1 << 16))}
	}
}

// check: what the session was told is the beginning of what was typed.
func (k *talk) check(t *testing.T) {
	t.Helper()
	if !strings.HasPrefix(k.typed.String(), k.told.String()) {
		t.Fatalf("typed %q, told %q", k.typed.String(), k.told.String())
	}
	if _, end := k.s.Keys().Ends(); int(end) != k.told.Len() {
		t.Fatalf("told %d keys, the last is number %d", k.told.Len(), end)
	}
}

// P18.4: over a line that delivers in the end the client has the session's screen, the session what was typed, in order, each once.
func TestWhatFollows(t *testing.T) {
	for seed := range int64(24) {
		set := session.Setting{Width: 1 + int(seed)*3, Height: 1 + int(seed), Room: 128 + int(seed)*13, Beat: 700, Most: 1 << 40}
		k := newTalk(t, seed, set)
		now := uint64(0)
		for range 400 {
			now += uint64(k.r.Intn(90))
			k.act(t)
			k.send(t, now, true)
			k.deliver(now, true)
			k.check(t)
		}
		lossyTold := k.told.Len()
		for range 100 {
			now += 400
			k.send(t, now, false)
			k.deliver(now, false)
			k.check(t)
		}
		if k.told.String() != k.typed.String() || k.c.Pending() != 0 {
			t.Errorf("seed %d: typed %d keys, told %d, %d pending", seed, k.typed.Len(), k.told.Len(), k.c.Pending())
		}
		if !screen.Same(k.c.Screen(), k.s.Screen()) {
			t.Errorf("seed %d: the client has %q, the session %q", seed, k.c.Screen().Rows(), k.s.Screen().Rows())
		}
		if peer, known := k.s.Peer(); peer != k.at || !known {
			t.Errorf("seed %d: the peer is %v, the client at %v", seed, peer, k.at)
		}
		if lossyTold < 50 || k.typed.Len() < 100 {
			t.Errorf("seed %d: typed %d keys, told %d over the lossy line", seed, k.typed.Len(), lossyTold)
		}
	}
}

// Both ends close, whichever did first: each knows that the other one is done, and falls silent.
func TestBothEndsClose(t *testing.T) {
	for seed := range int64(30) {
		k := newTalk(t, seed, setting())
		now := uint64(0)
		for range 20 {
			now += 30
			k.act(t)
			k.send(t, now, true)
			k.deliver(now, true)
		}
		switch seed % 3 {
		case 0:
			k.c = k.c.Close()
		case 1:
			k.s = k.s.Close()
		case 2:
			k.c, k.s = k.c.Close(), k.s.Close()
		}
		for range 60 {
			now += 200
			k.send(t, now, true)
			k.deliver(now, true)
		}
		// A session that its client leaves is closed by whoever has it.
		k.s = k.s.Close()
		for range 60 {
			now += 1100
			k.send(t, now, false)
			k.deliver(now, false)
		}
		is(t, "the client", k.c, true, true)
		if closing, done, spent := k.s.State(); !closing || !done || spent || k.s.Due() != greatest {
			t.Errorf("seed %d: the session: %v, %v, %v, Due %d", seed, closing, done, spent, k.s.Due())
		}
		silent(t, "the client", k.c, greatest)
	}
}
