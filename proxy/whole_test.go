package proxy_test

import (
	"math/rand"
	"slices"
	"strconv"
	"strings"
	"testing"

	"wicketgate/acl"
	"wicketgate/api"
	"wicketgate/control"
	"wicketgate/proxy"
	"wicketgate/registry"
	"wicketgate/session"
	"wicketgate/wire"
)

// flow is one tunnel, from its opening on: what came into it, and what came out, in each direction.
type flow struct {
	handle api.Handle
	in     [2]string
	out    [2]string
}

// place is where a flow is.
type place struct{ conn, stream int }

// world drives a proxy by chance, and holds what it does against what is promised.
type world struct {
	t       *testing.T
	r       *rand.Rand
	p       *proxy.Proxy
	flows   map[place][]*flow // all of a place, the youngest last
	read    map[place]int     // which one of these a client reads, counted by their first windows
	rest    [4]string         // what a client read of a frame so far
	numbers int
	heard   [4]string
	model   api.Registry
	sent    map[string]string   // lines that were done, and their replies
	barred  map[api.Handle]bool // suspended or deleted, and replied to
	steps   [4]int
	stops   [4]int
	counts  map[string]int
}

func newWorld(t *testing.T, seed int64) *world {
	p, e := proxy.New(operators, 3)
	ok(t, e)
	m, _ := registry.New(3)
	return &world{t: t, r: rand.New(rand.NewSource(seed)), p: p, flows: map[place][]*flow{}, read: map[place]int{}, model: m, sent: map[string]string{}, barred: map[api.Handle]bool{}, counts: map[string]int{}}
}

func (w *world) youngest(k place) *flow {
	l := w.flows[k]
	if len(l) == 0 {
		return nil
	}
	return l[len(l)-1]
}

func (w *world) forget(conn int) {
	for k := range w.flows {
		if k.conn == conn {
			delete(w.flows, k)
			delete(w.read, k)
		}
	}
	w.rest[conn] = ""
}

// client makes a client do something.
func (w *world) client() {
	conn := w.r.Intn(4)
	s, up := w.p.Session(conn)
	switch {
	case !up:
		ok(w.t, w.p.Accept(conn))
		w.forget(conn)
	case w.r.Intn(300) == 0:
		ok(w.t, w.p.Reset(conn))
		w.forget(conn)
	case w.r.Intn(3) == 0:
		w.reads(conn)
	case s.Phase == api.Fresh:
		w.sends(conn, s, api.Frame{Kind: api.Hello, Data: "t" + strconv.Itoa(w.r.Intn(3))})
	case s.Phase == api.Challenged:
		w.proves(conn, s)
	default:
		w.streams(conn, s)
	}
}

func (w *world) proves(conn int, s api.Session) {
	key := "key of " + s.Name
	if w.r.Intn(6) == 0 {
		key = "wrong"
	}
	f := proofOf(w.t, s, key)
	tenant, found := registry.Find(w.p.Control().Registry, s.Name)
	holds := found && tenant.State == api.Active && key != "wrong"
	w.sends(conn, s, f)
	if x, _ := w.p.Session(conn); (x.Phase == api.Ready) != holds {
		w.t.Fatal("a proof", x, holds)
	} else if holds {
		w.counts["proved"]++
	}
}

func (w *world) streams(conn int, s api.Session) {
	stream := 1 + w.r.Intn(3)
	f := api.Frame{Kind: api.Data, Stream: stream, Data: w.text(300)}
	switch w.r.Intn(12) {
	case 0, 1, 2:
		if session.Has(s, stream) {
			return
		}
		f.Kind, f.Data = api.Open, []string{"10.0.0.1:80", "10.0.0.1:22", "11.0.0.1:80"}[w.r.Intn(3)]
	case 3, 4:
		f.Kind, f.Data = api.Window, "\x00"+string([]byte{byte(w.r.Intn(200))})
	case 5:
		f.Kind, f.Data = api.Close, ""
	case 6:
		if w.r.Intn(3) == 0 {
			f.Kind, f.Data = api.Reset, ""
		}
	}
	w.sends(conn, s, f)
}

func (w *world) text(most int) string {
	s := make([]byte, 1+w.r.Intn(most))
	w.r.Read(s)
	return string(s)
}

// sends has a frame done, and notes what it brings about.
func (w *world) sends(conn int, s api.Session, f api.Frame) {
	bytes, e := wire.Encode(f)
	ok(w.t, e)
	g := w.p.Control().Registry
	if n, e := w.p.Bytes(conn, bytes); n != len(bytes) || e != api.OK {
		w.t.Fatal(n, e)
	}
	for w.p.Frame(conn) == api.ErrFull {
		w.reads(conn)
	}
	x, _ := w.p.Session(conn)
	k := place{conn, f.Stream}
	was, is := session.Has(s, f.Stream), session.Has(x, f.Stream)
	if is && !was {
		w.opened(k, s, f, g)
	}
	if f.Kind == api.Data && was {
		if w.barred[w.youngest(k).handle] {
			w.t.Fatal("a byte is fed of a tenant that is suspended")
		}
		w.youngest(k).in[api.Forth] += f.Data
	}
}

// opened: a tunnel comes to be for who proved it, to a target that the rules allow.
func (w *world) opened(k place, s api.Session, f api.Frame, g api.Registry) {
	tenant, found := registry.Find(g, s.Name)
	if !found || tenant.Handle != s.Handle || tenant.State != api.Active || s.Phase != api.Ready || f.Kind != api.Open || f.Data != "10.0.0.1:80" || w.barred[s.Handle] {
		w.t.Fatal("a tunnel that may not be", s, f)
	}
	w.flows[k] = append(w.flows[k], &flow{handle: s.Handle})
	w.counts["opened"]++
}

// reads lets a client read, and holds what it reads against what came from the target.
func (w *world) reads(conn int) {
	s, e := w.p.Read(conn, 1+w.r.Intn(3000))
	ok(w.t, e)
	l, n, e := wire.All(w.rest[conn] + s)
	ok(w.t, e)
	w.rest[conn] = (w.rest[conn] + s)[n:]
	for _, f := range l {
		k := place{conn, f.Stream}
		switch {
		case f.Kind == api.Window && f.Data == "\x10\x00":
			w.read[k]++
		case f.Kind == api.Data:
			x := w.flows[k][w.read[k]-1]
			x.out[api.Back] += f.Data
			w.prefix(x, api.Back)
		}
	}
}

func (w *world) prefix(x *flow, side int) {
	if !strings.HasPrefix(x.in[side], x.out[side]) {
		w.t.Fatalf("side %d: %q is not the beginning of %q", side, x.out[side], x.in[side])
	}
}

// target makes a tunnel, or its target, do something.
func (w *world) target() {
	k := place{w.r.Intn(4), 1 + w.r.Intn(3)}
	x := w.youngest(k)
	if x == nil {
		return
	}
	moved, e := 0, api.OK
	switch w.r.Intn(10) {
	case 0, 1, 2:
		moved, e = w.p.Relay(k.conn, k.stream, api.Forth, w.r.Intn(400))
	case 3, 4, 5:
		moved, e = w.p.Relay(k.conn, k.stream, api.Back, w.r.Intn(400))
	case 6, 7:
		s := w.text(300)
		moved, e = w.p.Arrive(k.conn, k.stream, s)
		x.in[api.Back] += s[:moved]
	case 8:
		s, e := w.p.Target(k.conn, k.stream, w.r.Intn(400))
		ok(w.t, e)
		x.out[api.Forth] += s
		w.prefix(x, api.Forth)
	default:
		if w.r.Intn(4) == 0 {
			w.p.End(k.conn, k.stream)
		}
	}
	if moved > 0 && w.barred[x.handle] {
		w.t.Fatal("a byte is moved, or fed, of a tenant that is suspended")
	}
	if moved > 0 {
		w.counts["moved"]++
	}
	if e == api.ErrStream || e != api.OK && e != api.ErrClosed {
		w.t.Fatal(k, e)
	}
}

// operator makes an operator's connection do a step.
func (w *world) operator() {
	conn := w.r.Intn(4)
	before := w.p.Control()
	job, busy := control.Find(before, conn)
	if !busy {
		w.says(conn)
		return
	}
	left := w.p.Count(job.Handle)
	ok(w.t, w.p.Work(conn))
	w.steps[conn]++
	after := w.p.Control()
	if after.Registry.Seq != before.Registry.Seq {
		w.commits(conn, job, before, after)
	}
	if job.Phase == api.Sweeping && left > 0 {
		w.stops[conn]++
		if w.p.Count(job.Handle) != left-1 {
			w.t.Fatal("a step does not stop one tunnel")
		}
	}
	if job.Phase == api.Replying {
		w.hears(conn, job)
	}
}

func (w *world) says(conn int) {
	w.numbers++
	name := "t" + strconv.Itoa(w.r.Intn(3))
	verbs := []string{"create " + name + ` "key of ` + name + `" 1000000`, "suspend " + name + " 0", "resume " + name + " 0", "resume " + name + " 0", "resume " + name + " 0", "delete " + name + " 0", "drain " + name + " 0 5", "show " + name + " 0", "kill " + name + " 0", `acl ` + name + ` 0 insert 0 "allow 10.0.0.0/8 80"`, "acl " + name + " 0 remove 1", "nonsense"}
	if verb := 5; w.r.Intn(3) > 0 { // tenants are there, and may go somewhere, most of the time
		verbs = append(slices.Delete(verbs, verb, verb+1), verbs[0], verbs[0], verbs[9], verbs[9], verbs[2])
	}
	line := []string{"ann", "ann", "ann", "ann", "kim", "vic", "bob"}[w.r.Intn(7)] + " " + strconv.Itoa(w.numbers) + " " + verbs[w.r.Intn(len(verbs))]
	_, e := w.p.Say(conn, line+"\n")
	ok(w.t, e)
	ok(w.t, w.p.Work(conn))
	w.steps[conn], w.stops[conn] = 1, 0
}

// commits: the command is given to the one registry, and its reply is that.
func (w *world) commits(conn int, job api.Job, before api.Control, after api.Control) {
	var reply api.Reply
	w.model, reply = registry.Apply(w.model, job.Role, job.Req.Command, w.p.Clock())
	want := "error " + strconv.Itoa(job.Req.Id) + " " + strconv.Itoa(int(reply.Err))
	if reply.Err == api.OK {
		l := []string{"ok"}
		for _, n := range []int{job.Req.Id, reply.Seq, reply.Handle.Slot, reply.Handle.Gen, reply.Version, reply.State} {
			l = append(l, strconv.Itoa(n))
		}
		want = strings.Join(l, " ")
		if job.Req.Command.Verb == api.Resume {
			delete(w.barred, reply.Handle)
		}
		w.counts["done"]++
	}
	w.sent[job.Line] = want
	if !registry.Same(w.model, after.Registry) || after.Registry.Seq != before.Registry.Seq+1 {
		w.t.Fatal("not the one registry", job.Line)
	}
}

// hears: the reply is that of the command's place in the order; it comes in time; what it says is so.
func (w *world) hears(conn int, job api.Job) {
	s, e := w.p.Hear(conn, 1024)
	ok(w.t, e)
	if want, done := w.sent[job.Line]; done && s != want+"\n" || !done && !strings.HasPrefix(s, "error ") {
		w.t.Fatal(job.Line, s)
	}
	if w.steps[conn] > 6+w.stops[conn] {
		w.t.Fatal("too many steps", job.Line, w.steps[conn], w.stops[conn])
	}
	if verb := job.Req.Command.Verb; strings.HasPrefix(s, "ok") && (verb == api.Suspend || verb == api.Delete) {
		tenant, found := registry.Find(w.model, job.Req.Command.Name)
		if found && tenant.Handle == job.Handle && tenant.State != api.Suspended {
			return // somebody resumed it ahead of the reply
		}
		w.barred[job.Handle] = true
		if w.p.Count(job.Handle) != 0 {
			w.t.Fatal("tunnels are left")
		}
		w.counts["barred"]++
	}
}

// clock lets time pass: drains end, without tunnels.
func (w *world) clock() {
	n := w.r.Intn(4)
	ok(w.t, w.p.Tick(n))
	w.model = registry.Tick(w.model, w.p.Clock())
	g := w.p.Control().Registry
	if !registry.Same(g, w.model) {
		w.t.Fatal("not the one registry")
	}
	for _, x := range g.L {
		if x.State == api.Draining && x.Deadline <= w.p.Clock() || x.State == api.Suspended && x.Version > 1 && w.barred[x.Handle] && w.p.Count(x.Handle) > 0 {
			w.t.Fatal("a drain does not end")
		}
	}
}

// T1, T2, T3, T5, T6: whatever steps lie between each other.
func TestT1T2T3T5T6(t *testing.T) {
	counts := map[string]int{}
	for seed := range int64(12) {
		w := newWorld(t, seed)
		for range 40000 {
			switch w.r.Intn(20) {
			case 0:
				w.operator()
			case 1:
				if w.r.Intn(10) == 0 {
					w.clock()
				}
			case 2, 3, 4, 5, 6, 7, 8, 9, 10, 11:
				w.target()
			default:
				w.client()
			}
		}
		for name, n := range w.counts {
			counts[name] += n
		}
	}
	for _, name := range []string{"proved", "opened", "moved", "done", "barred"} {
		if counts[name] < 100 {
			t.Errorf("%s just %d times", name, counts[name])
		}
	}
}

// T3: all bytes come out, if they are moved and read often enough.
func TestT3All(t *testing.T) {
	r := rand.New(rand.NewSource(3))
	p := made(t, 1)
	var in, out [2]string
	unread := ""
	for round := range 3000 {
		data := make([]byte, 1+r.Intn(100))
		r.Read(data)
		if round < 2000 {
			if room := 1000 - (len(in[0]) - len(out[0])); room > len(data) {
				put(t, p, 0, api.Data, 1, string(data))
				in[0] += string(data)
			}
			n, e := p.Arrive(0, 1, string(data))
			ok(t, e)
			in[1] += string(data[:n])
		}
		for side := range 2 {
			_, e := p.Relay(0, 1, side, r.Intn(300))
			ok(t, e)
		}
		s, e := p.Target(0, 1, r.Intn(300))
		ok(t, e)
		out[0] += s
		s, e = p.Read(0, 4096)
		ok(t, e)
		l, n, e := wire.All(unread + s)
		ok(t, e)
		unread = (unread + s)[n:]
		for _, f := range l {
			if f.Kind != api.Data {
				continue
			}
			out[1] += f.Data
			window, _ := wire.Bytes(len(f.Data))
			put(t, p, 0, api.Window, 1, window)
		}
		if !strings.HasPrefix(in[0], out[0]) || !strings.HasPrefix(in[1], out[1]) {
			t.Fatal("not the first bytes")
		}
	}
	if in != out || len(in[0]) < 10000 || len(in[1]) < 10000 {
		t.Error(len(in[0]), len(out[0]), len(in[1]), len(out[1]))
	}
}

// T4: pages one after the other are all names as they were, each once.
func TestT4(t *testing.T) {
	p, e := proxy.New(operators, 64)
	ok(t, e)
	var names []string
	number := 0
	say := func(conn int, line string) []string {
		number++
		_, e := p.Say(conn, "ann "+strconv.Itoa(number)+" "+line+"\n")
		ok(t, e)
		return strings.Fields(work(t, p, conn))
	}
	for i := range 10 {
		names = append(names, "n"+strconv.Itoa(i))
		say(0, "create n"+strconv.Itoa(i)+" k 1000000")
	}
	page := say(0, "list 3")
	got := page[5:]
	for i := 0; page[4] != "end"; i++ {
		say(1, "delete n"+strconv.Itoa(7-i)+" 0")
		say(1, "create m"+strconv.Itoa(i)+" k 1000000")
		say(2, "list 2")
		page = say(0, "list 3 "+page[3]+" "+page[4])
		got = append(got, page[5:]...)
	}
	if !slices.Equal(got, names) {
		t.Error(got)
	}
	cursor := say(0, "list 1")[3]
	for range 3 {
		say(0, "list 1")
	}
	if page := say(0, "list 1 "+cursor+" 1"); page[0] != "error" || page[2] != strconv.Itoa(int(api.ErrCursor)) {
		t.Error(page)
	}
}

// T5: without a proof, or with a credential that holds no more, no tunnel comes to be.
func TestT5(t *testing.T) {
	p := bare(t)
	rule, _ := acl.Parse("allow 0.0.0.0/0 *")
	if l := p.Control().Registry.L[0].Rules; !slices.Equal(l, []api.Rule{rule}) {
		t.Fatal(l)
	}
	for _, f := range []api.Frame{{Kind: api.Open, Stream: 1, Data: "10.0.0.1:80"}, {Kind: api.Data, Stream: 1, Data: "x"}, {Kind: api.Auth, Data: strings.Repeat("a", 32)}} {
		ok(t, p.Accept(0))
		put(t, p, 0, f.Kind, f.Stream, f.Data)
		if _, up := p.Session(0); up || p.Count(acme) != 0 {
			t.Errorf("%+v", f)
		}
	}
	ask(t, p, 0, "ann 3 rotate acme 0 new 10 1000000", "ok 3 3 0 1 3 1")
	prove(t, p, 1, "acme", "k")
	ok(t, p.Tick(10))
	for key, holds := range map[string]bool{"k": false, "new": true} {
		ok(t, p.Accept(0))
		put(t, p, 0, api.Hello, 0, "acme")
		s, _ := p.Session(0)
		f := proofOf(t, s, key)
		put(t, p, 0, api.Auth, 0, f.Data)
		if _, up := p.Session(0); up != holds {
			t.Errorf("key %s: %t", key, up)
		}
		p.Reset(0)
	}
	// An answer is good for one challenge alone.
	ok(t, p.Accept(0))
	put(t, p, 0, api.Hello, 0, "acme")
	s, _ := p.Session(0)
	old := proofOf(t, s, "new")
	ok(t, p.Reset(0))
	ok(t, p.Accept(0))
	put(t, p, 0, api.Hello, 0, "acme")
	put(t, p, 0, api.Auth, 0, old.Data)
	if _, up := p.Session(0); up {
		t.Error("an old answer")
	}
}
