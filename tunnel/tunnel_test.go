package tunnel_test

import (
	"math"
	"math/rand"
	"strings"
	"testing"

	"wicketgate/api"
	"wicketgate/stream"
	"wicketgate/tunnel"
)

// paths lead to each state.
var paths = [][]int{
	api.Idle: nil, api.Asked: {api.EvOpen}, api.Up: {api.EvOpen, api.EvAccept}, api.HalfIn: {api.EvOpen, api.EvAccept, api.EvEndIn}, api.HalfOut: {api.EvOpen, api.EvAccept, api.EvEndOut},
	api.Over: {api.EvOpen, api.EvAccept, api.EvEndIn, api.EvEndOut}, api.Broken: {api.EvOpen, api.EvRefuse},
}

func made(t *testing.T, capacity int, events ...int) *tunnel.Tunnel {
	t.Helper()
	x, e := tunnel.New(capacity)
	if e != api.OK || x == nil || x.State() != api.Idle {
		t.Fatal(e)
	}
	for _, ev := range events {
		if e := x.Event(ev); e != api.OK {
			t.Fatal(ev, e)
		}
	}
	return x
}

func grant(t *testing.T, x *tunnel.Tunnel, side, n int) {
	t.Helper()
	if e := x.Grant(side, n); e != api.OK {
		t.Fatal(e)
	}
}

// full is up, with bytes in all four queues: "ab" and "xy" to go, "cd" and "z" that came.
func full(t *testing.T) *tunnel.Tunnel {
	x := made(t, 8, paths[api.Up]...)
	for side, s := range []string{"abcd", "xyz"} {
		grant(t, x, side, 2)
		if n, e := x.Feed(side, s); n != len(s) || e != api.OK {
			t.Fatal(n, e)
		}
		if n, e := x.Move(side, 2); n != 2 || e != api.OK {
			t.Fatal(n, e)
		}
		grant(t, x, side, 100)
	}
	return x
}

func drained(x *tunnel.Tunnel, side int) string {
	s, _ := x.Drain(side, math.MaxInt)
	return s
}

// P17.1: New's bounds, and a nil tunnel.
func TestP17_1New(t *testing.T) {
	for _, n := range []int{1, 4096} {
		x := made(t, n, paths[api.Up]...)
		for side := range 2 {
			if k, e := x.Feed(side, strings.Repeat("a", 5000)); k != n || e != api.OK {
				t.Error(k, e)
			}
		}
	}
	for _, n := range []int{0, -1, 4097, math.MinInt, math.MaxInt} {
		if x, e := tunnel.New(n); x != nil || e != api.ErrArg {
			t.Errorf("New(%d): %d", n, e)
		}
	}
	var x *tunnel.Tunnel
	fed, e1 := x.Feed(0, "a")
	moved, e2 := x.Move(0, 1)
	s, e3 := x.Drain(9, 1)
	a, b, c := x.Counts(0)
	if x.State() != 0 || x.Event(api.EvOpen) != api.ErrNil || x.Grant(9, 1) != api.ErrNil || fed != 0 || e1 != api.ErrNil || moved != 0 || e2 != api.ErrNil || s != "" || e3 != api.ErrNil || x.Stop() != 0 || a+b+c != 0 {
		t.Error("a nil tunnel")
	}
}

// P17.1: events, as the states of layer 14 say.
func TestP17_1Event(t *testing.T) {
	for s, path := range paths {
		for _, ev := range []int{math.MinInt, -1, 0, 1, 2, 3, 4, 5, 6, 7, math.MaxInt} {
			x := made(t, 4, path...)
			next, want := stream.Next(s, ev)
			if want != api.OK {
				next = s
			}
			if e := x.Event(ev); e != want || x.State() != next {
				t.Errorf("%d %d: %d %d", s, ev, e, x.State())
			}
		}
	}
}

// P17.1: what breaks a tunnel takes what was not moved.
func TestP17_1Broken(t *testing.T) {
	x := full(t)
	if x.Event(api.EvReset) != api.OK || x.State() != api.Broken || x.Stop() != 0 || drained(x, 0) != "ab" || drained(x, 1) != "xy" {
		t.Error("a reset")
	}
	y := full(t)
	if y.Event(api.EvEndIn) != api.OK || y.Event(api.EvEndOut) != api.OK {
		t.Fatal("ends")
	}
	if n, e := y.Move(0, 9); n != 2 || e != api.OK || drained(y, 0) != "abcd" {
		t.Error(n, e)
	}
	if n := y.Stop(); n != 1 || y.State() != api.Over {
		t.Error(n)
	}
}

// P17.2: directions that are none.
func TestP17_2Side(t *testing.T) {
	for s, path := range paths {
		x := made(t, 4, path...)
		for _, side := range []int{-1, 2, math.MinInt, math.MaxInt} {
			n, e := x.Feed(side, "a")
			k, e2 := x.Move(side, -1)
			d, e3 := x.Drain(side, 1)
			a, b, c := x.Counts(side)
			if x.Grant(side, -1) != api.ErrSide || n != 0 || e != api.ErrSide || k != 0 || e2 != api.ErrSide || d != "" || e3 != api.ErrSide || a+b+c != 0 {
				t.Error(s, side)
			}
		}
	}
}

// P17.2: what is granted.
func TestP17_2Grant(t *testing.T) {
	x := made(t, 4)
	for _, c := range []struct {
		n int
		e api.Errno
	}{{-1, api.ErrArg}, {65537, api.ErrCredit}, {65536, 0}, {1, api.ErrCredit}, {0, 0}, {math.MinInt, api.ErrArg}, {math.MaxInt, api.ErrCredit}} {
		if e := x.Grant(1, c.n); e != c.e {
			t.Errorf("Grant(%d): %d", c.n, e)
		}
	}
	if e := x.Grant(0, 65536); e != api.OK {
		t.Error("directions share their credit", e)
	}
	y := made(t, 4, paths[api.Up]...)
	grant(t, y, 0, 2)
	if y.Grant(0, -1) != api.ErrArg || y.Grant(0, 65536) != api.ErrCredit {
		t.Error("a wrong grant")
	}
	if _, e := y.Feed(0, "abcd"); e != api.OK {
		t.Error(e)
	}
	if n, e := y.Move(0, 9); n != 2 || e != api.OK {
		t.Error("a wrong grant changes the credit", n, e)
	}
}

// P17.2: in which states bytes are fed and moved.
func TestP17_2States(t *testing.T) {
	for s, path := range paths {
		for side := range 2 {
			x := made(t, 4, path...)
			open := side == 0 && stream.In(s) || side == 1 && stream.Out(s)
			n, e := x.Feed(side, "abcde")
			if open && (n != 4 || e != api.OK) || !open && (n != 0 || e != api.ErrClosed) {
				t.Errorf("feed %d in %d: %d %d", side, s, n, e)
			}
			moves := s == api.Up || s == api.HalfIn || s == api.HalfOut || s == api.Over
			n, e = x.Move(side, 1)
			if n != 0 || moves && e != api.OK || !moves && e != api.ErrClosed {
				t.Errorf("move %d in %d: %d %d", side, s, n, e)
			}
			n, e = x.Move(side, -1)
			if n != 0 || moves && e != api.ErrArg || !moves && e != api.ErrClosed {
				t.Errorf("move %d in %d: %d %d", side, s, n, e)
			}
			if d, e := x.Drain(side, 1); d != "" || e != api.OK {
				t.Errorf("drain %d in %d: %q %d", side, s, d, e)
			}
		}
	}
}

// P17.2: what is moved is bounded by what is asked, by what came, by the credit, by the room.
func TestP17_2Move(t *testing.T) {
	x := made(t, 4, paths[api.Up]...)
	grant(t, x, 0, 3)
	steps := []struct {
		feed        string
		fed         int
		ask, moved  int
		drain       int
		out         string
		a, b, c     int
		grantBehind int
	}{
		{"abcdef", 4, 9, 3, 9, "abc", 4, 3, 3, 100}, {"", 0, 9, 1, 0, "", 4, 4, 3, 0}, {"efghi", 4, 2, 2, -1, "", 8, 6, 3, 0}, {"", 0, 9, 1, 1, "d", 8, 7, 4, 0}, {"xyz", 3, math.MaxInt, 1, math.MaxInt, "efgh", 11, 8, 8, 0}, {"", 0, 0, 0, 9, "", 11, 8, 8, 0}, {"", 0, 9, 3, math.MinInt, "", 11, 11, 8, 0},
	}
	for i, s := range steps {
		n, e := x.Feed(0, s.feed)
		k, e2 := x.Move(0, s.ask)
		d, e3 := x.Drain(0, s.drain)
		a, b, c := x.Counts(0)
		if n != s.fed || k != s.moved || d != s.out || a != s.a || b != s.b || c != s.c || e+e2+e3 != api.OK {
			t.Errorf("%d: %d %d %q, %d %d %d, %d %d %d", i, n, k, d, a, b, c, e, e2, e3)
		}
		grant(t, x, 0, s.grantBehind)
	}
	if a, b, c := x.Counts(1); a+b+c != 0 {
		t.Error("directions are not apart")
	}
}

// P17.3: a tunnel that is stopped.
func TestP17_3(t *testing.T) {
	x := full(t)
	if n := x.Stop(); n != 3 || x.State() != api.Broken {
		t.Error(n, x.State())
	}
	for side := range 2 {
		n, e := x.Feed(side, "q")
		k, e2 := x.Move(side, 9)
		if n != 0 || e != api.ErrClosed || k != 0 || e2 != api.ErrClosed {
			t.Error(n, e, k, e2)
		}
	}
	if a, b, c := x.Counts(0); a != 4 || b != 2 || c != 0 {
		t.Error(a, b, c)
	}
	if drained(x, 0) != "ab" || drained(x, 1) != "xy" || x.Stop() != 0 {
		t.Error("what was on its way")
	}
	if a, b, c := x.Counts(1); a != 3 || b != 2 || c != 2 {
		t.Error(a, b, c)
	}
	for s, path := range paths {
		x := made(t, 4, path...)
		want := api.Broken
		if s == api.Over {
			want = api.Over
		}
		if n := x.Stop(); n != 0 || x.State() != want {
			t.Error(s, n, x.State())
		}
	}
}

// P17.4: what is drained are the first bytes of what was fed; never more than was granted is moved.
func TestP17_4(t *testing.T) {
	r := rand.New(rand.NewSource(17))
	for range 300 {
		x := made(t, 1+r.Intn(9), paths[api.Up]...)
		var fed, out [2]string
		var granted, moved [2]int
		stopped := false
		for range 200 {
			side, n := r.Intn(2), r.Intn(12)
			switch r.Intn(40) {
			case 0:
				x.Event(1 + r.Intn(6))
			case 1:
				stopped = stopped || r.Intn(3) == 0
				if stopped {
					x.Stop()
				}
			default:
				s := make([]byte, n)
				r.Read(s)
				k, e := x.Feed(side, string(s))
				fed[side] += string(s[:k])
				if g := r.Intn(6); x.Grant(side, g) == api.OK {
					granted[side] += g
				}
				m, e2 := x.Move(side, r.Intn(9))
				if stopped && (k > 0 || m > 0) || e != api.OK && k > 0 || e2 != api.OK && m > 0 {
					t.Fatal("what is stopped moves")
				}
				moved[side] += m
				d, _ := x.Drain(side, r.Intn(9))
				out[side] += d
			}
			for side := range 2 {
				a, b, c := x.Counts(side)
				if !strings.HasPrefix(fed[side], out[side]) || moved[side] > granted[side] || a != len(fed[side]) || b != moved[side] || c != len(out[side]) || c > b || b > a {
					t.Fatal(fed[side], out[side])
				}
			}
		}
	}
}
