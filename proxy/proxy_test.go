package proxy_test

import (
	"math"
	"slices"
	"strconv"
	"strings"
	"testing"

	"wicketgate/api"
	"wicketgate/control"
	"wicketgate/mac"
	"wicketgate/proxy"
	"wicketgate/session"
	"wicketgate/wire"
)

const last = api.MaxTick

var (
	operators = []api.Operator{{Name: "ann", Role: api.Governor}, {Name: "kim", Role: api.Keeper}, {Name: "vic", Role: api.Viewer}}
	acme      = api.Handle{Slot: 0, Gen: 1}
)

func ok(t *testing.T, e api.Errno) {
	t.Helper()
	if e != api.OK {
		t.Fatalf("error %d", e)
	}
}

// bare has a tenant acme that may go anywhere, and no clients.
func bare(t *testing.T) *proxy.Proxy {
	t.Helper()
	p, e := proxy.New(operators, 4)
	ok(t, e)
	ask(t, p, 0, "ann 1 create acme k 1000000", "ok 1 1 0 1 1 1")
	ask(t, p, 0, `ann 2 acl acme 0 insert 0 "allow 0.0.0.0/0 *"`, "ok 2 2 0 1 2 1")
	return p
}

// made has a client 0 too, that has proved who it is.
func made(t *testing.T, streams ...int) *proxy.Proxy {
	t.Helper()
	p := bare(t)
	prove(t, p, 0, "acme", "k")
	for _, s := range streams {
		open(t, p, 0, s)
	}
	return p
}

// ask says a line, works till it is replied to, and wants that reply.
func ask(t *testing.T, p *proxy.Proxy, conn int, line string, want string) {
	t.Helper()
	if _, e := p.Say(conn, line+"\n"); e != api.OK {
		t.Fatal(e)
	}
	if reply := work(t, p, conn); reply != want+"\n" {
		t.Fatalf("%s: %q, not %q", line, reply, want)
	}
}

func work(t *testing.T, p *proxy.Proxy, conn int) string {
	t.Helper()
	for range 60 {
		ok(t, p.Work(conn))
		if s, e := p.Hear(conn, 1024); s != "" || e != api.OK {
			ok(t, e)
			return s
		}
	}
	t.Fatal("no reply")
	return ""
}

// put lets a client send a frame, and has it done.
func put(t *testing.T, p *proxy.Proxy, conn int, kind int, stream int, data string) {
	t.Helper()
	ok(t, send(t, p, conn, kind, stream, data))
}

func send(t *testing.T, p *proxy.Proxy, conn int, kind int, stream int, data string) api.Errno {
	t.Helper()
	s, e := wire.Encode(api.Frame{Kind: kind, Stream: stream, Data: data})
	ok(t, e)
	if n, e := p.Bytes(conn, s); n != len(s) || e != api.OK {
		t.Fatal(n, e)
	}
	return p.Frame(conn)
}

// got are the frames that a client reads.
func got(t *testing.T, p *proxy.Proxy, conn int) []api.Frame {
	t.Helper()
	s, e := p.Read(conn, math.MaxInt)
	ok(t, e)
	l, n, e := wire.All(s)
	if e != api.OK || n != len(s) {
		t.Fatalf("%q", s)
	}
	return l
}

func prove(t *testing.T, p *proxy.Proxy, conn int, name string, key string) {
	t.Helper()
	ok(t, p.Accept(conn))
	put(t, p, conn, api.Hello, 0, name)
	s, _ := p.Session(conn)
	f := proofOf(t, s, key)
	if c, _ := mac.Challenge(s.A, s.B); !slices.Equal(got(t, p, conn), []api.Frame{{Kind: api.Auth, Data: c}}) {
		t.Fatal("a challenge")
	}
	put(t, p, conn, api.Auth, 0, f.Data)
	if l := got(t, p, conn); !slices.Equal(l, []api.Frame{{Kind: api.Hello, Data: name}}) {
		t.Fatal(l)
	}
}

// proofOf is the answer to a session's challenge.
func proofOf(t *testing.T, s api.Session, key string) api.Frame {
	t.Helper()
	c, e := mac.Challenge(s.A, s.B)
	ok(t, e)
	a, e := mac.Answer(key, c, s.Name)
	ok(t, e)
	return api.Frame{Kind: api.Auth, Data: a}
}

func open(t *testing.T, p *proxy.Proxy, conn int, stream int) {
	t.Helper()
	put(t, p, conn, api.Open, stream, "10.0.0.1:80")
	if l := got(t, p, conn); !slices.Equal(l, []api.Frame{{Kind: api.Window, Stream: stream, Data: "\x10\x00"}}) {
		t.Fatal(l)
	}
}

func reset(stream int) api.Frame { return api.Frame{Kind: api.Reset, Stream: stream} }

func isOpen(t *testing.T, p *proxy.Proxy, conn int, stream int) bool {
	t.Helper()
	s, up := p.Session(conn)
	return up && session.Has(s, stream)
}

// room leaves so much room in client 0's OUT, by pings.
func room(t *testing.T, p *proxy.Proxy, left int) {
	t.Helper()
	for free := 4096; free > left; {
		n := min(8, max(0, free-left-5))
		if free-left-5-n > 0 && free-left-5-n < 5 {
			n -= 5
		}
		if e := send(t, p, 0, api.Ping, 0, strings.Repeat("p", n)); e != api.OK {
			t.Fatal(e, free)
		}
		free -= 5 + n
	}
}

// P20.1: new proxies.
func TestP20_1New(t *testing.T) {
	p, e := proxy.New(operators, 4)
	ok(t, e)
	c, _ := control.New(operators, 4)
	if !control.Same(p.Control(), c) || p.Clock() != 0 || p.Count(acme) != 0 || p.Count(api.Handle{}) != 0 {
		t.Error("New")
	}
	for conn := range 4 {
		if s, up := p.Session(conn); up || !session.Same(s, api.Session{}) {
			t.Error(conn, s)
		}
	}
	for _, x := range []struct {
		l []api.Operator
		n int
		e api.Errno
	}{{[]api.Operator{{}}, 0, api.ErrControl}, {operators, 0, api.ErrArg}, {nil, 65, api.ErrArg}} {
		if p, e := proxy.New(x.l, x.n); p != nil || e != x.e {
			t.Error(x, e)
		}
	}
	d := p.Control()
	d.Operators[0].Name, d.Registry.Slots.Free[0] = "x", 99
	if !control.Same(p.Control(), c) {
		t.Error("memory is shared")
	}
}

// calls are all calls with a connection, and what they tell beside an error.
func calls(p *proxy.Proxy, conn int) map[string]api.Errno {
	out := map[string]api.Errno{}
	number := func(name string, n int, e api.Errno) {
		if n != 0 && e != api.OK {
			e = -1
		}
		out[name] = e
	}
	text := func(name string, s string, e api.Errno) { number(name, len(s), e) }
	n, e := p.Bytes(conn, "")
	number("Bytes", n, e)
	s, e := p.Read(conn, 1)
	text("Read", s, e)
	n, e = p.Relay(conn, 77, 9, 1)
	number("Relay", n, e)
	n, e = p.Arrive(conn, 77, "a")
	number("Arrive", n, e)
	s, e = p.Target(conn, 77, 1)
	text("Target", s, e)
	n, e = p.Say(conn, "")
	number("Say", n, e)
	s, e = p.Hear(conn, 1)
	text("Hear", s, e)
	out["End"], out["Work"], out["Frame"] = p.End(conn, 77), p.Work(conn), p.Frame(conn)
	out["Reset"] = p.Reset(conn)
	return out
}

// P20.1: nil proxies, connections that are none, and those that are shut.
func TestP20_1Errors(t *testing.T) {
	var none *proxy.Proxy
	s, up := none.Session(0)
	if none.Tick(-1) != api.ErrNil || none.Accept(9) != api.ErrNil || none.Clock() != 0 || none.Count(acme) != 0 || up || !session.Same(s, api.Session{}) || !control.Same(none.Control(), api.Control{}) {
		t.Error("a nil proxy")
	}
	p := made(t)
	for name, e := range calls(none, 9) {
		if e != api.ErrNil {
			t.Errorf("%s of a nil proxy: %d", name, e)
		}
	}
	for _, conn := range []int{-1, 4, math.MinInt, math.MaxInt} {
		if e := p.Accept(conn); e != api.ErrArg {
			t.Error(e)
		}
		if _, up := p.Session(conn); up {
			t.Error(conn)
		}
		for name, e := range calls(p, conn) {
			if e != api.ErrArg {
				t.Errorf("%s(%d): %d", name, conn, e)
			}
		}
	}
	for name, e := range calls(p, 2) {
		want := map[string]api.Errno{"Say": 0, "Hear": 0, "Work": api.ErrMore}
		if w, operator := want[name]; operator && e != w || !operator && e != api.ErrShut {
			t.Errorf("%s: %d", name, e)
		}
	}
	for name, e := range calls(p, 0) {
		want := map[string]api.Errno{"Relay": api.ErrStream, "Arrive": api.ErrStream, "Target": api.ErrStream, "End": api.ErrStream, "Frame": api.ErrMore, "Work": api.ErrMore}
		if e != want[name] {
			t.Errorf("%s: %d", name, e)
		}
	}
}

// P20.1: connections are opened, with a session of their own, and shut.
func TestP20_1Accept(t *testing.T) {
	p := bare(t)
	for i, conn := range []int{2, 0, 2, 2} {
		p.Reset(conn)
		ok(t, p.Accept(conn))
		if s, up := p.Session(conn); !up || !session.Same(s, api.Session{A: conn, B: i + 1}) {
			t.Errorf("%+v", s)
		}
		if e := p.Accept(conn); e != api.ErrOpened {
			t.Error(e)
		}
	}
	if n, e := p.Bytes(2, strings.Repeat("x", 3000)); n != 2048 || e != api.OK {
		t.Error(n, e)
	}
	if n, e := p.Bytes(2, "x"); n != 0 || e != api.OK {
		t.Error(n, e)
	}
	ok(t, p.Reset(2))
	if p.Reset(2) != api.ErrShut || p.Frame(2) != api.ErrShut {
		t.Error("a shut connection")
	}
	ok(t, p.Accept(2))
	if e := p.Frame(2); e != api.ErrMore {
		t.Error("IN is not empty", e)
	}
	q := made(t, 1)
	put(t, q, 0, api.Data, 1, "hi")
	put(t, q, 0, api.Ping, 0, "p")
	ok(t, q.Reset(0))
	if q.Count(acme) != 0 {
		t.Error("a tunnel without a connection")
	}
	ok(t, q.Accept(0))
	if _, e := q.Relay(0, 1, 0, 9); e != api.ErrStream || len(got(t, q, 0)) != 0 {
		t.Error("what was is there", e)
	}
}

// P20.1: frames are looked at; what is wrong is death.
func TestP20_1Frame(t *testing.T) {
	for s, want := range map[string]api.Errno{
		"": api.ErrMore, "\x08": api.ErrMore, "\x08\x00\x00\x00": api.ErrMore, "\x08\x00\x00\x00\x02p": api.ErrMore, "\x00": api.ErrKind, "\x09": api.ErrKind, "\x04\x00\x01\x02\x01": api.ErrLong, "\x08\x00\x01\x00\x00": api.ErrFrame, "\x04\x00\x00\x00\x01x": api.ErrFrame,
	} {
		p := made(t, 1)
		_, e := p.Bytes(0, s)
		ok(t, e)
		if e := p.Frame(0); e != want {
			t.Errorf("%q: %d", s, e)
		}
		if _, up := p.Session(0); up != (want == api.ErrMore) || up != (p.Count(acme) == 1) {
			t.Errorf("%q: open %t", s, up)
		}
	}
	p := made(t)
	_, e := p.Bytes(0, "\x08\x00\x00\x00\x01a\x08\x00\x00\x00\x01b\x08")
	ok(t, e)
	ok(t, p.Frame(0))
	ok(t, p.Frame(0))
	if e := p.Frame(0); e != api.ErrMore || !slices.Equal(got(t, p, 0), []api.Frame{{Kind: api.Ping, Data: "a"}, {Kind: api.Ping, Data: "b"}}) {
		t.Error(e)
	}
	if s, e := p.Read(0, 1); s != "" || e != api.OK {
		t.Error(s, e)
	}
	put2 := func(conn int, n int) string { s, _ := p.Read(conn, n); return s }
	_, e = p.Bytes(0, "\x00\x00\x00\x00")
	ok(t, e)
	ok(t, p.Frame(0))
	if put2(0, 2) != "\x08\x00" || put2(0, -1) != "" || put2(0, 99) != "\x00\x00\x00" {
		t.Error("Read")
	}
}

// P20.1: a frame asks for room in OUT ahead of being taken.
func TestP20_1Room(t *testing.T) {
	for left, want := range map[int]api.Errno{600: 0, 601: 0, 599: api.ErrFull, 595: api.ErrFull} {
		p := made(t)
		room(t, p, left)
		if e := send(t, p, 0, api.Ping, 0, ""); e != want {
			t.Errorf("room %d: %d", left, e)
		}
		if want == api.OK {
			continue
		}
		if e := p.Frame(0); e != api.ErrFull {
			t.Error(e)
		}
		got(t, p, 0)
		ok(t, p.Frame(0))
		if l := got(t, p, 0); len(l) != 1 {
			t.Error("the frame is lost")
		}
	}
	p := made(t)
	room(t, p, 595)
	_, e := p.Bytes(0, "\x09")
	ok(t, e)
	if e := p.Frame(0); e != api.ErrKind {
		t.Error(e)
	}
}

// P20.1: a tunnel is opened for both directions, anew with its stream.
func TestP20_1Open(t *testing.T) {
	p := made(t, 1, 9)
	if p.Count(acme) != 2 || p.Count(api.Handle{Slot: 0, Gen: 2}) != 0 || p.Count(api.Handle{}) != 0 {
		t.Error(p.Count(acme))
	}
	put(t, p, 0, api.Reset, 1, "")
	if p.Count(acme) != 1 || len(got(t, p, 0)) != 0 {
		t.Error("a reset")
	}
	open(t, p, 0, 1)
	for side := range 2 {
		if n, e := p.Relay(0, 1, side, 9); n != 0 || e != api.OK {
			t.Error(n, e)
		}
	}
	put(t, p, 0, api.Open, 1, "10.0.0.1:80")
	if _, up := p.Session(0); up || p.Count(acme) != 0 {
		t.Error("a stream is opened twice")
	}
}

// P20.1: data that can't be fed, grants and ends that can't be, stop the tunnel.
func TestP20_1Acts(t *testing.T) {
	p := made(t, 1, 2, 3, 4, 5)
	put(t, p, 0, api.Data, 1, strings.Repeat("a", 512))
	put(t, p, 0, api.Data, 1, strings.Repeat("b", 512))
	if l := got(t, p, 0); len(l) != 0 || !isOpen(t, p, 0, 1) {
		t.Error(l)
	}
	put(t, p, 0, api.Data, 1, "c")
	if l := got(t, p, 0); !slices.Equal(l, []api.Frame{reset(1)}) || isOpen(t, p, 0, 1) || p.Count(acme) != 4 {
		t.Error(l)
	}
	if n, e := p.Relay(0, 1, 0, 9); n != 0 || e != api.ErrClosed {
		t.Error(n, e)
	}
	put(t, p, 0, api.Close, 2, "")
	put(t, p, 0, api.Data, 2, "x")
	if l := got(t, p, 0); !slices.Equal(l, []api.Frame{reset(2)}) || isOpen(t, p, 0, 2) {
		t.Error(l)
	}
	put(t, p, 0, api.Close, 3, "")
	put(t, p, 0, api.Close, 3, "")
	if l := got(t, p, 0); !slices.Equal(l, []api.Frame{reset(3)}) || isOpen(t, p, 0, 3) {
		t.Error(l)
	}
	put(t, p, 0, api.Window, 4, "\xf0\x00")
	if l := got(t, p, 0); len(l) != 0 {
		t.Error(l)
	}
	put(t, p, 0, api.Window, 4, "\x00\x01")
	if l := got(t, p, 0); !slices.Equal(l, []api.Frame{reset(4)}) || isOpen(t, p, 0, 4) {
		t.Error(l)
	}
	put(t, p, 0, api.Data, 5, "in")
	put(t, p, 0, api.Reset, 5, "")
	if n, e := p.Relay(0, 5, 0, 9); n != 0 || e != api.ErrClosed || isOpen(t, p, 0, 5) || p.Count(acme) != 0 {
		t.Error(n, e)
	}
	put(t, p, 0, api.Hello, 0, "acme")
	if _, up := p.Session(0); up || p.Frame(0) != api.ErrShut {
		t.Error("the dead is open")
	}
	q := made(t, 1)
	put(t, q, 0, api.Data, 1, strings.Repeat("a", 1000-512))
	put(t, q, 0, api.Data, 1, strings.Repeat("a", 512))
	put(t, q, 0, api.Data, 1, strings.Repeat("b", 25))
	if _, e := q.Relay(0, 1, 0, 9); e != api.ErrClosed || isOpen(t, q, 0, 1) {
		t.Error("what can't be fed whole", e)
	}
}

// P20.2: bytes go forth, and more may come.
func TestP20_2Forth(t *testing.T) {
	p := made(t, 1)
	put(t, p, 0, api.Data, 1, "hello")
	for _, x := range []struct {
		side, n, want int
		e             api.Errno
	}{{-1, 9, 0, api.ErrSide}, {2, -9, 0, api.ErrSide}, {0, -1, 0, api.ErrArg}, {0, 0, 0, 0}, {0, 2, 2, 0}, {0, math.MaxInt, 3, 0}, {0, 9, 0, 0}} {
		if n, e := p.Relay(0, 1, x.side, x.n); n != x.want || e != x.e {
			t.Errorf("Relay(%d, %d): %d %d", x.side, x.n, n, e)
		}
	}
	if s, e := p.Target(0, 1, 0); s != "" || e != api.OK || len(got(t, p, 0)) != 0 {
		t.Error(s, e)
	}
	if s, e := p.Target(0, 1, 2); s != "he" || e != api.OK || !slices.Equal(got(t, p, 0), []api.Frame{{Kind: api.Window, Stream: 1, Data: "\x00\x02"}}) {
		t.Error(s, e)
	}
	if s, e := p.Target(0, 1, math.MaxInt); s != "llo" || e != api.OK || !slices.Equal(got(t, p, 0), []api.Frame{{Kind: api.Window, Stream: 1, Data: "\x00\x03"}}) {
		t.Error(s, e)
	}
	// What was granted at first does for 4096 bytes; what has left is granted anew.
	block := strings.Repeat("z", 512)
	for i := range 20 {
		put(t, p, 0, api.Data, 1, block)
		if n, e := p.Relay(0, 1, 0, 999); n != 512 || e != api.OK {
			t.Fatal(i, n, e)
		}
		if s, e := p.Target(0, 1, 999); s != block || e != api.OK {
			t.Fatal(i, e)
		}
	}
	if l := got(t, p, 0); len(l) != 20 || l[0].Data != "\x02\x00" {
		t.Error(l)
	}
}

// P20.2: a Window stands in OUT just if there is room, and the stream is open; it is granted all the same.
func TestP20_2Window(t *testing.T) {
	for left, want := range map[int]int{6: 0, 7: 1} {
		p := made(t, 1)
		put(t, p, 0, api.Data, 1, "hello")
		_, e := p.Relay(0, 1, 0, 9)
		ok(t, e)
		fill(t, p, 1, left)
		if s, e := p.Target(0, 1, 9); s != "hello" || e != api.OK {
			t.Error(s, e)
		}
		n := 0
		for _, f := range got(t, p, 0) {
			if f.Kind == api.Window {
				n++
			}
		}
		if n != want {
			t.Errorf("room %d: %d", left, n)
		}
	}
	p := made(t, 1)
	put(t, p, 0, api.Data, 1, "hello")
	_, e := p.Relay(0, 1, 0, 3)
	ok(t, e)
	put(t, p, 0, api.Reset, 1, "")
	if s, e := p.Target(0, 1, 2); s != "he" || e != api.OK || len(got(t, p, 0)) != 0 {
		t.Error(s, e)
	}
	if s, e := p.Target(0, 1, 9); s != "l" || e != api.OK || len(got(t, p, 0)) != 0 {
		t.Error(s, e)
	}
	open(t, p, 0, 1)
	if s, e := p.Target(0, 1, 9); s != "" || e != api.OK {
		t.Error(s, e)
	}
}

// fill leaves so much room in client 0's OUT, by bytes from a target.
func fill(t *testing.T, p *proxy.Proxy, stream int, left int) {
	t.Helper()
	room(t, p, 600)
	n := 600 - left - 5
	for n > 0 {
		k := min(n, 512)
		if n-k > 0 && n-k <= 5 {
			k -= 6
		}
		if a, e := p.Arrive(0, stream, strings.Repeat("f", k)); a != k || e != api.OK {
			t.Fatal(a, e)
		}
		if m, e := p.Relay(0, stream, 1, k); m != k || e != api.OK {
			t.Fatal(m, k, e)
		}
		n -= k + 5
	}
}

// P20.2: bytes come back in frames that OUT has room for, as far as the credit goes.
func TestP20_2Back(t *testing.T) {
	p := made(t, 1)
	if n, e := p.Arrive(0, 1, strings.Repeat("q", 2000)); n != 1024 || e != api.OK {
		t.Error(n, e)
	}
	for _, x := range []struct {
		n, want int
		e       api.Errno
	}{{-1, 0, api.ErrArg}, {0, 0, 0}, {3, 3, 0}, {9999, 512, 0}, {math.MaxInt, 509, 0}, {9, 0, 0}} {
		n, e := p.Relay(0, 1, 1, x.n)
		var want []api.Frame
		if x.want > 0 {
			want = []api.Frame{{Kind: api.Data, Stream: 1, Data: strings.Repeat("q", x.want)}}
		}
		if n != x.want || e != x.e || !slices.Equal(got(t, p, 0), want) {
			t.Errorf("Relay(%d): %d %d", x.n, n, e)
		}
	}
	for moved := 1024; moved < 4096; {
		_, e := p.Arrive(0, 1, "0123456789")
		ok(t, e)
		n, e := p.Relay(0, 1, 1, 10)
		ok(t, e)
		moved += n
		if n < 10 && moved != 4096 {
			t.Fatal(moved)
		}
		got(t, p, 0)
	}
	_, e := p.Arrive(0, 1, "more")
	ok(t, e)
	if n, e := p.Relay(0, 1, 1, 10); n != 0 || e != api.OK || len(got(t, p, 0)) != 0 {
		t.Error("more than the credit", n, e)
	}
	put(t, p, 0, api.Window, 1, "\x00\x02")
	if n, e := p.Relay(0, 1, 1, 10); n != 2 || e != api.OK {
		t.Error(n, e)
	}
	for left, want := range map[int]int{0: 0, 4: 0, 5: 0, 6: 1, 15: 10} {
		p := made(t, 1, 2)
		fill(t, p, 1, left)
		_, e := p.Arrive(0, 2, strings.Repeat("w", 20))
		ok(t, e)
		if n, e := p.Relay(0, 2, 1, 20); n != want || e != api.OK {
			t.Errorf("room %d: %d %d", left, n, e)
		}
		if n, e := p.Relay(0, 2, 1, -1); n != 0 || e != api.ErrArg {
			t.Errorf("room %d: %d %d", left, n, e)
		}
		back := ""
		for _, f := range got(t, p, 0) {
			if f.Stream == 2 {
				back += f.Data
			}
		}
		if back != strings.Repeat("w", want) {
			t.Errorf("room %d: %q", left, back)
		}
	}
}

// P20.2: a target ends.
func TestP20_2End(t *testing.T) {
	p := made(t, 1)
	_, e := p.Arrive(0, 1, "bye")
	ok(t, e)
	ok(t, p.End(0, 1))
	if l := got(t, p, 0); !slices.Equal(l, []api.Frame{{Kind: api.Close, Stream: 1}}) {
		t.Error(l)
	}
	if p.End(0, 1) != api.ErrEvent || len(got(t, p, 0)) != 0 {
		t.Error("ended twice")
	}
	if n, e := p.Arrive(0, 1, "x"); n != 0 || e != api.ErrClosed {
		t.Error(n, e)
	}
	if n, e := p.Relay(0, 1, 1, 9); n != 3 || e != api.OK {
		t.Error(n, e)
	}
	put(t, p, 0, api.Close, 1, "")
	if !isOpen(t, p, 0, 1) || p.Count(acme) != 1 {
		t.Error("a tunnel that is over is stopped")
	}
	ask(t, p, 0, "ann 3 kill acme 0", "ok 3 3 0 1 2 1")
	if p.Count(acme) != 0 || isOpen(t, p, 0, 1) {
		t.Error("it is there")
	}
	if n, e := p.Relay(0, 1, 0, 9); n != 0 || e != api.OK {
		t.Error(n, e)
	}
	for left, want := range map[int]bool{4: false, 5: true} {
		p := made(t, 1)
		fill(t, p, 1, left)
		ok(t, p.End(0, 1))
		l := got(t, p, 0)
		if (l[len(l)-1].Kind == api.Close) != want {
			t.Errorf("room %d: %v", left, l[len(l)-1].Kind)
		}
	}
	q := made(t, 1)
	put(t, q, 0, api.Reset, 1, "")
	if e := q.End(0, 1); e != api.ErrEvent || len(got(t, q, 0)) != 0 {
		t.Error(e)
	}
}

// P20.3: lines are taken from IN, and worked at step by step.
func TestP20_3Work(t *testing.T) {
	p := bare(t)
	job := func() (api.Job, bool) { return control.Find(p.Control(), 1) }
	if e := p.Work(1); e != api.ErrMore {
		t.Error(e)
	}
	if n, e := p.Say(1, "vic 1 list 1"); n != 12 || e != api.OK || p.Work(1) != api.ErrMore {
		t.Error(n, e)
	}
	if n, e := p.Say(1, "\nvic 2 show acme 0\nrest"); n != 23 || e != api.OK {
		t.Error(n, e)
	}
	for phase := api.Parsing; phase <= api.Replying; phase++ {
		if phase == api.Sweeping {
			continue
		}
		ok(t, p.Work(1))
		if j, found := job(); !found || j.Phase != phase || j.Line != "vic 1 list 1" {
			t.Errorf("%d: %+v", phase, j)
		}
		if s, e := p.Hear(1, 99); s != "" || e != api.OK {
			t.Error(s, e)
		}
	}
	ok(t, p.Work(1))
	if s, e := p.Hear(1, 9); s != "ok 1 3 1 " || e != api.OK {
		t.Errorf("%q %d", s, e)
	}
	if s, e := p.Hear(1, 99); s != "end acme\n" || e != api.OK {
		t.Errorf("%q %d", s, e)
	}
	if s, e := p.Hear(1, -1); s != "" || e != api.OK {
		t.Errorf("%q %d", s, e)
	}
	if s := work(t, p, 1); s != "ok 2 4 0 1 2 1\n" {
		t.Error(s)
	}
	if e := p.Work(1); e != api.ErrMore {
		t.Error(e)
	}
}

// P20.3: a full IN without a line's end is a line, and an empty line is one.
func TestP20_3Full(t *testing.T) {
	p := bare(t)
	if n, e := p.Say(2, strings.Repeat("x", 511)); n != 511 || e != api.OK || p.Work(2) != api.ErrMore {
		t.Error(n, e)
	}
	if n, e := p.Say(2, "yz\n"); n != 1 || e != api.OK {
		t.Error(n, e)
	}
	ok(t, p.Work(2))
	if j, _ := control.Find(p.Control(), 2); j.Line != strings.Repeat("x", 511)+"y" {
		t.Error(j.Line)
	}
	if n, e := p.Say(2, "\n\nq"); n != 3 || e != api.OK {
		t.Error(n, e)
	}
	for range 3 {
		if s := work(t, p, 2); s != "error 0 193\n" {
			t.Error(s)
		}
	}
	if e := p.Work(2); e != api.ErrMore {
		t.Error(e)
	}
	if n, e := p.Say(3, strings.Repeat("x", 511)+"\n"); n != 512 || e != api.OK {
		t.Error(n, e)
	}
	ok(t, p.Work(3))
	if j, _ := control.Find(p.Control(), 3); j.Line != strings.Repeat("x", 511) {
		t.Error(j.Line)
	}
}

// P20.3: a step asks for room for a reply; a line is taken without.
func TestP20_3Room(t *testing.T) {
	p := bare(t)
	replied := 0
	for range 500 {
		_, e := p.Say(0, "\n")
		ok(t, e)
		if e := p.Work(0); e == api.ErrFull {
			break
		}
		if s := p.Control().Jobs; len(s) == 0 {
			replied += len("error 0 193\n")
		}
	}
	if replied <= 1024-301-12 || replied > 1024-301+12 {
		t.Error(replied)
	}
	before := p.Control()
	if p.Work(0) != api.ErrFull || !control.Same(before, p.Control()) || len(before.Jobs) != 1 || before.Jobs[0].Phase != api.Parsing {
		t.Error("a step without room")
	}
	s, e := p.Hear(0, 300-(1024-replied))
	ok(t, e)
	if e := p.Work(0); e != api.ErrFull || len(s) != replied-724 {
		t.Error("room for 300 bytes does", e)
	}
	if s, e := p.Hear(0, 1); len(s) != 1 || e != api.OK || p.Work(0) != api.OK {
		t.Error("room for 301 bytes does not")
	}
}

// P20.3: the tunnels of a suspended tenant are stopped one by one, by connections, then streams.
func TestP20_3Sweep(t *testing.T) {
	p := made(t, 9, 3)
	ask(t, p, 1, "ann 5 create other o 1000", "ok 5 3 1 1 1 1")
	ask(t, p, 1, `ann 6 acl other 0 insert 0 "allow 0.0.0.0/0 *"`, "ok 6 4 1 1 2 1")
	prove(t, p, 2, "other", "o")
	open(t, p, 2, 1)
	prove(t, p, 1, "acme", "k")
	open(t, p, 1, 5)
	put(t, p, 0, api.Data, 3, "hello")
	if n, e := p.Relay(0, 3, 0, 2); n != 2 || e != api.OK {
		t.Fatal(n, e)
	}
	_, e := p.Say(3, "kim 1 suspend acme 0\n")
	ok(t, e)
	for range 4 {
		ok(t, p.Work(3))
	}
	for i, k := range [][2]int{{0, 3}, {0, 9}, {1, 5}} {
		if p.Count(acme) != 3-i || !isOpen(t, p, k[0], k[1]) {
			t.Error(i, p.Count(acme))
		}
		ok(t, p.Work(3))
		if l := got(t, p, k[0]); !slices.Equal(l, []api.Frame{reset(k[1])}) || isOpen(t, p, k[0], k[1]) {
			t.Error(k, l)
		}
		if s, e := p.Hear(3, 99); s != "" || e != api.OK {
			t.Error(s, e)
		}
	}
	ok(t, p.Work(3))
	ok(t, p.Work(3))
	if s, e := p.Hear(3, 99); s != "ok 1 5 0 1 3 2\n" || e != api.OK || p.Count(acme) != 0 {
		t.Error(s, e)
	}
	if n, e := p.Relay(0, 3, 0, 9); n != 0 || e != api.ErrClosed {
		t.Error(n, e)
	}
	if s, e := p.Target(0, 3, 9); s != "he" || e != api.OK {
		t.Error(s, e)
	}
	if p.Count(api.Handle{Slot: 1, Gen: 1}) != 1 || !isOpen(t, p, 2, 1) {
		t.Error("another tenant's tunnel is stopped")
	}
	put(t, p, 0, api.Open, 3, "10.0.0.1:80")
	if l := got(t, p, 0); !slices.Equal(l, []api.Frame{reset(3)}) {
		t.Error(l)
	}
	ask(t, p, 3, "kim 2 resume acme 0", "ok 2 6 0 1 4 1")
	open(t, p, 0, 3)
}

// P20.3: a Reset stands in OUT just if there is room for it.
func TestP20_3Reset(t *testing.T) {
	for left, want := range map[int]bool{4: false, 5: true} {
		p := made(t, 1)
		fill(t, p, 1, left)
		ask(t, p, 0, "ann 3 delete acme 0", "ok 3 3 0 1 3 1")
		l := got(t, p, 0)
		if (l[len(l)-1] == reset(1)) != want || p.Count(acme) != 0 {
			t.Errorf("room %d", left)
		}
	}
}

// P20.4: the clock, and how far it goes.
func TestP20_4Clock(t *testing.T) {
	p := bare(t)
	for _, n := range []int{-1, 1000000001, math.MinInt, math.MaxInt} {
		if e := p.Tick(n); e != api.ErrArg || p.Clock() != 0 {
			t.Errorf("Tick(%d): %d", n, e)
		}
	}
	ok(t, p.Tick(0))
	ok(t, p.Tick(5))
	if p.Clock() != 5 {
		t.Error(p.Clock())
	}
	for range 999 {
		ok(t, p.Tick(1000000000))
	}
	if p.Tick(1000000000) != api.ErrArg || p.Clock() != 999000000005 || p.Tick(999999995) != api.OK || p.Clock() != last || p.Tick(1) != api.ErrArg || p.Tick(0) != api.OK {
		t.Error(p.Clock())
	}
}

// P20.4: clients that are idle die; at the clock's last tick all do.
func TestP20_4Idle(t *testing.T) {
	up := func(p *proxy.Proxy) (l []int) {
		for conn := range 4 {
			if _, is := p.Session(conn); is {
				l = append(l, conn)
			}
		}
		return l
	}
	p := made(t, 1)
	ok(t, p.Tick(10))
	ok(t, p.Accept(2))
	ok(t, p.Tick(99989))
	if l := up(p); !slices.Equal(l, []int{0, 2}) {
		t.Error(l)
	}
	_, e := p.Bytes(0, "\x08\x00\x00\x00")
	ok(t, e)
	if p.Frame(0) != api.ErrMore {
		t.Error("a frame that has not come")
	}
	ok(t, p.Tick(1))
	if l := up(p); !slices.Equal(l, []int{2}) || p.Count(acme) != 0 {
		t.Error(l)
	}
	ok(t, p.Tick(9))
	put(t, p, 2, api.Ping, 0, "")
	ok(t, p.Tick(99999))
	if l := up(p); !slices.Equal(l, []int{2}) {
		t.Error(l)
	}
	ok(t, p.Tick(1))
	if l := up(p); len(l) != 0 {
		t.Error(l)
	}
	ok(t, p.Accept(2))
	ok(t, p.Reset(2))
	ok(t, p.Tick(50000))
	ok(t, p.Accept(2))
	ok(t, p.Tick(50000))
	if l := up(p); !slices.Equal(l, []int{2}) {
		t.Error(l)
	}
	for p.Clock() < last-5 {
		ok(t, p.Tick(min(1000000000, last-5-p.Clock())))
	}
	ok(t, p.Accept(1))
	ok(t, p.Tick(4))
	ok(t, p.Accept(3))
	if l := up(p); !slices.Equal(l, []int{1, 3}) {
		t.Error(l)
	}
	ok(t, p.Tick(1))
	if l := up(p); len(l) != 0 {
		t.Error(l)
	}
	ok(t, p.Accept(0))
	if l := up(p); !slices.Equal(l, []int{0}) {
		t.Error(l)
	}
	ok(t, p.Tick(0))
	if l := up(p); len(l) != 0 {
		t.Error(l)
	}
}

// P20.4: drains end at their deadlines, and their tunnels are stopped, all at once.
func TestP20_4Drain(t *testing.T) {
	p := made(t, 2, 1)
	prove(t, p, 3, "acme", "k")
	open(t, p, 3, 7)
	ask(t, p, 0, "kim 1 drain acme 0 50", "ok 1 3 0 1 3 3")
	put(t, p, 0, api.Open, 5, "10.0.0.1:80")
	if l := got(t, p, 0); !slices.Equal(l, []api.Frame{reset(5)}) || p.Count(acme) != 3 {
		t.Error("a tunnel is opened while the tenant drains", l)
	}
	put(t, p, 0, api.Data, 1, "on")
	if n, e := p.Relay(0, 1, 0, 9); n != 2 || e != api.OK {
		t.Error(n, e)
	}
	ok(t, p.Tick(49))
	if p.Count(acme) != 3 || len(got(t, p, 0)) != 0 {
		t.Error(p.Count(acme))
	}
	ok(t, p.Tick(1))
	if l := got(t, p, 0); p.Count(acme) != 0 || !slices.Equal(l, []api.Frame{reset(1), reset(2)}) || !slices.Equal(got(t, p, 3), []api.Frame{reset(7)}) {
		t.Error(p.Count(acme), l)
	}
	c := p.Control()
	if x := c.Registry.L[0]; x.State != api.Suspended || x.Version != 4 || x.Deadline != 0 || c.Registry.Seq != 4 {
		t.Errorf("%+v", x)
	}
	if s, e := p.Target(0, 1, 9); s != "on" || e != api.OK || len(got(t, p, 0)) != 0 {
		t.Error(s, e)
	}
	if n, e := p.Arrive(0, 1, "x"); n != 0 || e != api.ErrClosed {
		t.Error(n, e)
	}
}

// P20.4: what is told shares nothing with the proxy.
func TestP20_4Memory(t *testing.T) {
	p := made(t, 1, 2)
	s, _ := p.Session(0)
	s.Open[0] = 99
	_ = append(s.Open, 5)
	c := p.Control()
	c.Registry.L[0].Name, c.Done[0].Text = "x", "x"
	if s, _ := p.Session(0); !slices.Equal(s.Open, []int{1, 2}) || p.Control().Registry.L[0].Name != "acme" || p.Control().Done[0].Text == "x" {
		t.Error("memory is shared")
	}
}

// The example of the whole: of five bytes two were moved, and the tenant is suspended.
func TestP20_5Example(t *testing.T) {
	p := made(t, 1)
	put(t, p, 0, api.Data, 1, "hello")
	n, e := p.Relay(0, 1, 0, 2)
	ok(t, e)
	ask(t, p, 0, "kim 1 suspend acme 0", "ok 1 3 0 1 3 2")
	if s, e := p.Target(0, 1, 99); n != 2 || s != "he" || e != api.OK {
		t.Error(n, s, e)
	}
	if n, e := p.Relay(0, 1, 0, 9); n != 0 || e != api.ErrClosed {
		t.Error(n, e)
	}
	put(t, p, 0, api.Data, 1, "more")
	if l := got(t, p, 0); !slices.Equal(l, []api.Frame{reset(1), reset(1)}) {
		t.Error(l)
	}
	if n, e := p.Arrive(0, 1, "back"); n != 0 || e != api.ErrClosed {
		t.Error(n, e)
	}
	ask(t, p, 0, "kim 1 suspend acme 0", "ok 1 3 0 1 3 2")
	if strconv.Itoa(p.Control().Registry.Seq) != "3" {
		t.Error("a number is done twice")
	}
}
