package session_test

import (
	"math"
	"math/rand"
	"slices"
	"strings"
	"testing"

	"wicketgate/acl"
	"wicketgate/api"
	"wicketgate/mac"
	"wicketgate/ports"
	"wicketgate/registry"
	"wicketgate/session"
	"wicketgate/wire"
)

func frame(kind, stream int, data string) api.Frame {
	return api.Frame{Kind: kind, Stream: stream, Data: data}
}

func clone(s api.Session) api.Session {
	s.Open = slices.Clone(s.Open)
	return s
}

// tenants has acme, with a key from 10 to 110 and another one from 50 on, that may go anywhere in 10/8 but to port 22.
func tenants(t *testing.T) api.Registry {
	t.Helper()
	r, _ := registry.New(4)
	deny, _ := acl.Parse("deny 10.0.0.0/8 22")
	allow, _ := acl.Parse("allow 10.0.0.0/8 *")
	return with(t, r, 10,
		api.Command{Verb: api.Create, Name: "other", Key: "k", N: 100}, api.Command{Verb: api.Create, Name: "acme", Key: "key", N: 100},
		api.Command{Verb: api.Acl, Name: "acme", Rule: deny}, api.Command{Verb: api.Acl, Name: "acme", At: 1, Rule: allow})
}

func with(t *testing.T, r api.Registry, now int, l ...api.Command) api.Registry {
	t.Helper()
	for _, c := range l {
		x, reply := registry.Apply(r, api.Governor, c, now)
		if reply.Err != api.OK {
			t.Fatalf("%+v: %+v", c, reply)
		}
		r = x
	}
	return r
}

func proof(s api.Session, key, name string) api.Frame {
	c, _ := mac.Challenge(s.A, s.B)
	a, _ := mac.Answer(key, c, name)
	return frame(api.Auth, 0, a)
}

// step is a frame that must not be an error.
func step(t *testing.T, s api.Session, f api.Frame, r api.Registry, now int) (api.Session, []api.Frame, api.Act) {
	t.Helper()
	before := clone(s)
	x, l, act, e := session.Step(s, f, r, now)
	if e != api.OK || !session.Right(x) || !session.Same(s, before) {
		t.Fatalf("%+v %+v: %+v %d", s, f, x, e)
	}
	for _, f := range l {
		if !wire.Right(f) {
			t.Fatalf("a reply is wrong: %+v", f)
		}
	}
	_ = append(x.Open, 77)
	return x, l, act
}

func challenged(name string) api.Session {
	return api.Session{Phase: api.Challenged, Name: name, A: 3, B: 7}
}

func ready(streams ...int) api.Session {
	return api.Session{Phase: api.Ready, Name: "acme", Handle: api.Handle{Slot: 1, Gen: 1}, A: 3, B: 7, Open: streams}
}

var (
	dead   = api.Session{Phase: api.Dead, A: 3, B: 7}
	wrongs = []api.Session{
		{A: -1}, {B: -1}, {A: 2147483648}, {B: math.MaxInt}, {Phase: -1}, {Phase: 4}, {Phase: math.MinInt}, {Name: "a"}, {Phase: api.Dead, Name: "a"}, {Phase: api.Challenged}, {Phase: api.Ready}, challenged(strings.Repeat("n", 65)),
		{Handle: api.Handle{Slot: 1}}, {Phase: api.Challenged, Name: "a", Handle: api.Handle{Gen: 1}}, {Phase: api.Dead, Handle: api.Handle{Gen: -1}}, {Open: []int{1}}, {Phase: api.Dead, Open: []int{1}}, {Phase: api.Challenged, Name: "a", Open: []int{1}},
		ready(0), ready(-1), ready(65536), ready(1, 1), ready(2, 1), ready(1, 3, 2), ready(1, 2, 3, 4, 5, 6, 7, 8, 9), ready(math.MinInt, 1), ready(1, math.MaxInt),
	}
)

// P18.1: sessions that are new, and right.
func TestP18_1Right(t *testing.T) {
	for _, c := range [][2]int{{0, 0}, {3, 7}, {2147483647, 2147483647}} {
		if s, e := session.New(c[0], c[1]); e != api.OK || !session.Same(s, api.Session{A: c[0], B: c[1]}) || !session.Right(s) {
			t.Errorf("New(%v): %+v %d", c, s, e)
		}
	}
	for _, n := range []int{-1, 2147483648, math.MinInt, math.MaxInt} {
		for _, c := range [][2]int{{n, 0}, {0, n}} {
			if s, e := session.New(c[0], c[1]); e != api.ErrSession || !session.Same(s, api.Session{}) {
				t.Errorf("New(%v): %+v %d", c, s, e)
			}
		}
	}
	for _, s := range []api.Session{{}, dead, challenged("a"), challenged(strings.Repeat("\xff", 64)), ready(), ready(1, 2, 3, 4, 5, 6, 7, 65535), {Phase: api.Ready, Name: "a", Handle: api.Handle{Slot: -5, Gen: math.MaxInt}}, {Phase: api.Ready, Name: "a"}} {
		if !session.Right(s) {
			t.Errorf("%+v is wrong", s)
		}
	}
	for _, s := range wrongs {
		if session.Right(s) {
			t.Errorf("%+v is right", s)
		}
		if x, l, act, e := session.Step(s, frame(0, 0, ""), api.Registry{}, 0); e != api.ErrSession || l != nil || act != (api.Act{}) || !session.Same(x, api.Session{}) {
			t.Errorf("%+v: %+v %d", s, x, e)
		}
		if x, e := session.Forget(s, 1); e != api.ErrSession || !session.Same(x, api.Session{}) {
			t.Errorf("%+v: %+v %d", s, x, e)
		}
	}
}

// P18.1: what is open, what is forgotten, what is the same.
func TestP18_1Streams(t *testing.T) {
	s := ready(2, 5, 9)
	for n, want := range map[int]bool{2: true, 5: true, 9: true, 1: false, 3: false, 10: false, 0: false, math.MinInt: false} {
		if session.Has(s, n) != want {
			t.Errorf("Has(%d)", n)
		}
		x, e := session.Forget(s, n)
		left := slices.DeleteFunc([]int{2, 5, 9}, func(k int) bool { return k == n })
		if want && (e != api.OK || !session.Same(x, ready(left...))) || !want && (e != api.ErrStream || !session.Same(x, api.Session{})) {
			t.Errorf("Forget(%d): %+v %d", n, x, e)
		}
		_ = append(x.Open, 99)
	}
	if !session.Same(s, ready(2, 5, 9)) || !session.Has(api.Session{Open: []int{-4}}, -4) {
		t.Error("Has of any")
	}
	if !session.Same(api.Session{Open: []int{}}, api.Session{}) {
		t.Error("the same are not")
	}
	for _, x := range []api.Session{{}, dead, ready(2, 5), ready(2, 5, 8), {Phase: 1, Name: s.Name, Handle: s.Handle, A: 3, B: 7, Open: s.Open}, {Phase: 2, Name: "acmf", Handle: s.Handle, A: 3, B: 7, Open: s.Open}, {Phase: 2, Name: "acme", A: 3, B: 7, Open: s.Open}, {Phase: 2, Name: "acme", Handle: s.Handle, A: 4, B: 7, Open: s.Open}, {Phase: 2, Name: "acme", Handle: s.Handle, A: 3, B: 8, Open: s.Open}} {
		if session.Same(x, s) || session.Same(s, x) {
			t.Errorf("%+v is the same", x)
		}
	}
}

// P18.2: frames that are wrong.
func TestP18_2Frame(t *testing.T) {
	r := tenants(t)
	for _, s := range []api.Session{{}, dead, challenged("acme"), ready(1)} {
		for _, f := range []api.Frame{{}, frame(9, 0, ""), frame(api.Ping, 1, ""), frame(api.Data, 1, ""), frame(api.Data, 0, "a"), frame(api.Window, 1, "abc"), frame(api.Auth, 0, "short"), frame(api.Reset, 65536, "")} {
			if x, l, act, e := session.Step(s, f, r, 20); e != api.ErrFrame || l != nil || act != (api.Act{}) || !session.Same(x, api.Session{}) {
				t.Errorf("%+v %+v: %+v %d", s, f, x, e)
			}
		}
	}
}

// kinds are frames of each kind, on stream 1 where they are of one.
func kinds(s api.Session) []api.Frame {
	return []api.Frame{
		frame(api.Hello, 0, "acme"), proof(s, "key", "acme"), frame(api.Open, 1, "10.0.0.1:80"), frame(api.Data, 1, "hi"), frame(api.Window, 1, "\x01\x02"), frame(api.Close, 1, ""), frame(api.Reset, 1, ""), frame(api.Ping, 0, "ping"),
	}
}

// P18.2: in which phase which kinds mean something; all else is death.
func TestP18_2Phases(t *testing.T) {
	r := tenants(t)
	lives := map[int][]int{api.Fresh: {api.Hello, api.Ping}, api.Challenged: {api.Auth, api.Ping}, api.Ready: {api.Open, api.Data, api.Window, api.Close, api.Reset, api.Ping}}
	for _, s := range []api.Session{{A: 3, B: 7}, challenged("acme"), ready()} {
		for _, f := range kinds(s) {
			x, l, act := step(t, s, f, r, 20)
			if slices.Contains(lives[s.Phase], f.Kind) {
				if x.Phase == api.Dead {
					t.Errorf("%+v %+v: dead", s, f)
				}
			} else if !session.Same(x, dead) || len(l) != 0 || act != (api.Act{Kind: api.ActDead}) {
				t.Errorf("%+v %+v: %+v %v %v", s, f, x, l, act)
			}
			if f.Kind == api.Ping && (!session.Same(x, s) || !slices.Equal(l, []api.Frame{f}) || act != (api.Act{})) {
				t.Errorf("a ping in %+v: %v %v", s, l, act)
			}
		}
	}
	for _, f := range kinds(dead) {
		if x, l, act := step(t, dead, f, r, 20); !session.Same(x, dead) || len(l) != 0 || act != (api.Act{}) {
			t.Errorf("the dead does something: %+v %v %v", x, l, act)
		}
	}
}

// P18.2: a client says who it is, and proves it.
func TestP18_2Proof(t *testing.T) {
	r := tenants(t)
	s, _ := session.New(3, 7)
	c, _ := mac.Challenge(3, 7)
	for _, name := range []string{"acme", "none", "\xff", strings.Repeat("n", 64)} {
		x, l, act := step(t, s, frame(api.Hello, 0, name), r, 20)
		if !session.Same(x, challenged(name)) || !slices.Equal(l, []api.Frame{frame(api.Auth, 0, c)}) || act != (api.Act{}) {
			t.Errorf("%q: %+v %v %v", name, x, l, act)
		}
	}
	s = challenged("acme")
	x, l, act := step(t, s, proof(s, "key", "acme"), r, 20)
	if !session.Same(x, ready()) || !slices.Equal(l, []api.Frame{frame(api.Hello, 0, "acme")}) || act != (api.Act{Kind: api.ActReady}) {
		t.Errorf("%+v %v %v", x, l, act)
	}
	rotated := with(t, r, 50, api.Command{Verb: api.Rotate, Name: "acme", Key: "new", N: 10, M: 100})
	for _, c := range []struct {
		s   api.Session
		f   api.Frame
		r   api.Registry
		now int
		ok  bool
	}{
		{s, proof(s, "key", "acme"), r, 10, true}, {s, proof(s, "key", "acme"), r, 9, false}, {s, proof(s, "key", "acme"), r, 109, true}, {s, proof(s, "key", "acme"), r, 110, false}, {s, proof(s, "ke", "acme"), r, 20, false}, {s, proof(s, "key", "other"), r, 20, false},
		{challenged("none"), proof(s, "key", "none"), r, 20, false}, {challenged("other"), proof(s, "key", "other"), r, 20, false}, {challenged("other"), proof(s, "k", "other"), r, 20, true}, {s, proof(api.Session{A: 3, B: 8}, "key", "acme"), r, 20, false},
		{s, proof(s, "new", "acme"), rotated, 55, true}, {s, proof(s, "key", "acme"), rotated, 59, true}, {s, proof(s, "key", "acme"), rotated, 60, false},
		{s, proof(s, "key", "acme"), with(t, r, 20, api.Command{Verb: api.Suspend, Name: "acme"}), 20, false}, {s, proof(s, "key", "acme"), with(t, r, 20, api.Command{Verb: api.Drain, Name: "acme", N: 9}), 20, false},
		{s, proof(s, "key", "acme"), with(t, r, 20, api.Command{Verb: api.Delete, Name: "acme"}), 20, false}, {s, proof(s, "key", "acme"), api.Registry{}, 20, false},
		{s, proof(s, "key", "acme"), with(t, r, 20, api.Command{Verb: api.Suspend, Name: "acme"}, api.Command{Verb: api.Resume, Name: "acme"}), 20, true},
	} {
		x, l, act := step(t, c.s, c.f, c.r, c.now)
		if (x.Phase == api.Ready) != c.ok || !c.ok && (!session.Same(x, dead) || len(l) != 0 || act != (api.Act{Kind: api.ActDead})) {
			t.Errorf("%+v at %d: %+v %v %v", c.s, c.now, x, l, act)
		}
	}
}

// P18.2: what may be opened.
func TestP18_2Open(t *testing.T) {
	r := tenants(t)
	target, _ := ports.ParseTarget("10.1.2.3:80")
	x, l, act := step(t, ready(2, 9), frame(api.Open, 5, "10.1.2.3:80"), r, 20)
	if !session.Same(x, ready(2, 5, 9)) || !slices.Equal(l, []api.Frame{frame(api.Window, 5, "\x10\x00")}) || act != (api.Act{Kind: api.ActOpen, Stream: 5, Target: target}) {
		t.Errorf("%+v %v %v", x, l, act)
	}
	if x, l, act := step(t, ready(2, 9), frame(api.Open, 9, "10.1.2.3:80"), r, 20); !session.Same(x, dead) || len(l) != 0 || act != (api.Act{Kind: api.ActDead}) {
		t.Errorf("%+v %v %v", x, l, act)
	}
	seven, eight := ready(1, 2, 3, 4, 5, 6, 7), ready(1, 2, 3, 4, 5, 6, 7, 8)
	stranger := ready()
	stranger.Handle.Gen = 2
	for _, c := range []struct {
		s    api.Session
		data string
		r    api.Registry
		ok   bool
	}{
		{ready(), "10.0.0.1:80", r, true}, {ready(), "10.0.0.1:22", r, false}, {ready(), "11.0.0.1:80", r, false}, {ready(), "10.0.0.1", r, false}, {ready(), "0.0.0.0:0", r, false}, {ready(), "10.0.0.1:080", r, false}, {ready(), "\xff", r, false},
		{seven, "10.0.0.1:80", r, true}, {eight, "10.0.0.1:80", r, false}, {stranger, "10.0.0.1:80", r, false}, {ready(), "10.0.0.1:80", api.Registry{}, false},
		{ready(), "10.0.0.1:80", with(t, r, 20, api.Command{Verb: api.Suspend, Name: "acme"}), false}, {ready(), "10.0.0.1:80", with(t, r, 20, api.Command{Verb: api.Drain, Name: "acme", N: 9}), false}, {ready(), "10.0.0.1:80", with(t, r, 20, api.Command{Verb: api.Delete, Name: "acme"}), false},
		{ready(), "10.0.0.1:80", with(t, r, 20, api.Command{Verb: api.Delete, Name: "acme"}, api.Command{Verb: api.Create, Name: "acme", Key: "key", N: 100}, api.Command{Verb: api.Acl, Name: "acme", Rule: api.Rule{Allow: true, Ports: api.Ports{To: 65535}}}), false},
		{ready(), "10.0.0.1:80", with(t, r, 20, api.Command{Verb: api.Acl, Name: "acme", At: -2}), false}, {ready(), "10.0.0.1:22", with(t, r, 20, api.Command{Verb: api.Acl, Name: "acme", At: -1}), true},
	} {
		x, l, act := step(t, c.s, frame(api.Open, 300, c.data), c.r, 500)
		if session.Has(x, 300) != c.ok || (act.Kind == api.ActOpen) != c.ok || !c.ok && (!session.Same(x, c.s) || !slices.Equal(l, []api.Frame{frame(api.Reset, 300, "")}) || act != (api.Act{})) {
			t.Errorf("%+v %q: %+v %v %v", c.s, c.data, x, l, act)
		}
	}
}

// P18.2: what is asked for of streams, open and not.
func TestP18_2Streams(t *testing.T) {
	r := api.Registry{}
	s := ready(2, 300)
	for _, c := range []struct {
		f   api.Frame
		act api.Act
	}{
		{frame(api.Data, 300, "a\x00b"), api.Act{Kind: api.ActData, Stream: 300, Data: "a\x00b"}}, {frame(api.Window, 300, "\x01\x02"), api.Act{Kind: api.ActGrant, Stream: 300, N: 258}}, {frame(api.Window, 2, "\x00\x00"), api.Act{Kind: api.ActGrant, Stream: 2}}, {frame(api.Close, 2, ""), api.Act{Kind: api.ActEnd, Stream: 2}},
	} {
		if x, l, act := step(t, s, c.f, r, 20); !session.Same(x, s) || len(l) != 0 || act != c.act {
			t.Errorf("%+v: %+v %v %v", c.f, x, l, act)
		}
		f := c.f
		f.Stream = 3
		if x, l, act := step(t, s, f, r, 20); !session.Same(x, s) || !slices.Equal(l, []api.Frame{frame(api.Reset, 3, "")}) || act != (api.Act{}) {
			t.Errorf("%+v: %+v %v %v", f, x, l, act)
		}
	}
	if x, l, act := step(t, s, frame(api.Reset, 300, ""), r, 20); !session.Same(x, ready(2)) || len(l) != 0 || act != (api.Act{Kind: api.ActReset, Stream: 300}) {
		t.Errorf("%+v %v %v", x, l, act)
	}
	if x, l, act := step(t, s, frame(api.Reset, 3, ""), r, 20); !session.Same(x, s) || len(l) != 0 || act != (api.Act{}) {
		t.Errorf("%+v %v %v", x, l, act)
	}
}

// P18.3: nothing is opened, or asked for, ahead of a proof; what is opened is allowed; the dead stay so.
func TestP18_3(t *testing.T) {
	r := rand.New(rand.NewSource(18))
	g := tenants(t)
	proved, opened := 0, 0
	for range 3000 {
		s, _ := session.New(3, 7)
		proof1 := false
		for range 30 {
			l := append(kinds(s), frame(api.Hello, 0, []string{"acme", "other", "none"}[r.Intn(3)]), proof(s, []string{"key", "k"}[r.Intn(2)], s.Name), frame(api.Open, 1+r.Intn(12), []string{"10.0.0.1:80", "10.0.0.1:22", "11.0.0.1:1", "?"}[r.Intn(4)]))
			f := l[r.Intn(len(l))]
			if s.Phase == api.Ready && (f.Kind == api.Hello || f.Kind == api.Auth) {
				continue
			}
			x, _, act := step(t, s, f, g, 20)
			if act.Kind == api.ActReady {
				proof1 = true
				proved++
			}
			if !proof1 && (act.Kind != api.ActNone && act.Kind != api.ActDead || len(x.Open) > 0) || s.Phase == api.Dead && (x.Phase != api.Dead || act.Kind != api.ActNone) {
				t.Fatalf("%+v %+v: %+v", s, f, act)
			}
			if act.Kind == api.ActOpen {
				opened++
				tenant, _ := registry.Find(g, x.Name)
				if pass, _, _ := acl.Decide(tenant.Rules, act.Target); !pass || tenant.Handle != x.Handle {
					t.Fatalf("%+v %+v", x, act)
				}
			}
			s = x
		}
	}
	if proved < 20 || opened < 20 {
		t.Error(proved, opened)
	}
}
