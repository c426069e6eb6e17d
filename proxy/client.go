package proxy

import (
	"strconv"

	"wicketgate/api"
	"wicketgate/fault"
	"wicketgate/fifo"
	"wicketgate/session"
	"wicketgate/wire"
)

// How great a client's queues are, how much room there must be for what a frame brings about, how many bytes a frame has beside its data.
const (
	clientIn  = 2048
	clientOut = 4096
	frameRoom = 600
	head      = 5
)

// client is a connection that is open.
type client struct {
	api.Session
	in  *fifo.Fifo
	out *fifo.Fifo
}

func newClient(s api.Session) *client {
	return &client{Session: s, in: queue(clientIn), out: queue(clientOut)}
}

// queue is one of a capacity that is right.
func queue(capacity int) *fifo.Fifo {
	q, _ := fifo.New(capacity)
	return q
}

// watch lets a connection die so long from now on; the timer has no later tick than the clock's last one.
func (p *Proxy) watch(conn int) {
	p.idle.Set(conn, min(p.clock+api.IdleTicks, api.MaxTick))
}

// die shuts a connection, with all that is in its queues.
func (p *Proxy) die(conn int) {
	p.forget(conn)
	p.clients[conn] = nil
	p.idle.Cancel(conn)
}

// offer lays frames into OUT, each one whole, or not at all.
func (c *client) offer(frames ...api.Frame) {
	for _, f := range frames {
		if s, e := wire.Encode(f); e == api.OK && len(s) <= c.out.Room() {
			c.out.Push(s)
		}
	}
}

// visit is what a call does to a client's connection; the frames stand in OUT at its end.
type visit struct {
	*client
	proxy  *Proxy
	conn   int
	frames []api.Frame
}

func (p *Proxy) visit(conn int) (*visit, error) {
	err := fault.First(isThere(p), isConn(conn), func() error { return fault.Unless(p.clients[conn] != nil, api.ErrShut) })
	if err != nil {
		return nil, fault.Within("client "+strconv.Itoa(conn), err)
	}
	return &visit{client: p.clients[conn], proxy: p, conn: conn}, nil
}

func (v *visit) send(frames ...api.Frame) { v.frames = append(v.frames, frames...) }

func (v *visit) flush() { v.offer(v.frames...) }

// acts are what acts ask for; others ask for nothing. With an error the act's tunnel is stopped.
func acts() map[int]func(*visit, api.Act) error {
	return map[int]func(*visit, api.Act) error{
		api.ActOpen:  (*visit).open,
		api.ActData:  (*visit).feed,
		api.ActGrant: (*visit).grant,
		api.ActEnd:   (*visit).end,
		api.ActReset: (*visit).reset,
		api.ActDead:  (*visit).dead,
	}
}

// frame does the first frame in IN.
func (v *visit) frame() error {
	f, size, e := wire.Take(v.in.Peek(v.in.Len()), 0)
	switch {
	case e == api.ErrMore:
		return fault.Of(e)
	case e != api.OK:
		v.proxy.die(v.conn)
		return fault.Within("frame", fault.Of(e))
	case v.out.Room() < frameRoom:
		return fault.Of(api.ErrFull)
	}
	s, replies, act, e := session.Step(v.Session, f, v.proxy.control.Registry, v.proxy.clock)
	if e != api.OK {
		return fault.Within("session", fault.Of(e))
	}
	v.in.Pop(size)
	v.proxy.watch(v.conn)
	v.Session = s
	v.send(replies...)
	if do, asked := acts()[act.Kind]; asked && do(v, act) != nil {
		v.proxy.stop(key{v.conn, act.Stream})
		v.send(api.Frame{Kind: api.Reset, Stream: act.Stream})
	}
	return nil
}

func (v *visit) lane(act api.Act) lane { return v.proxy.lanes[key{v.conn, act.Stream}] }

func (v *visit) open(act api.Act) error {
	l, err := newLane(v.Handle)
	if err == nil {
		v.proxy.lanes[key{v.conn, act.Stream}] = l
	}
	return err
}

func (v *visit) feed(act api.Act) error {
	n, e := v.lane(act).Feed(api.Forth, act.Data)
	return fault.First(
		func() error { return fault.Of(e) },
		func() error { return fault.Unless(n == len(act.Data), api.ErrFull) },
	)
}

func (v *visit) grant(act api.Act) error { return fault.Of(v.lane(act).Grant(api.Back, act.N)) }

func (v *visit) end(act api.Act) error { return fault.Of(v.lane(act).Event(api.EvEndIn)) }

func (v *visit) reset(act api.Act) error {
	v.proxy.stop(key{v.conn, act.Stream})
	return nil
}

func (v *visit) dead(api.Act) error {
	v.proxy.die(v.conn)
	return nil
}

// moveBack moves no more than one frame holds, and OUT has room for.
func (v *visit) moveBack(l lane, stream int, n int) (int, api.Errno) {
	moved, e := l.Move(api.Back, min(n, api.MaxData, max(0, v.out.Room()-head)))
	if moved > 0 {
		s, _ := l.Drain(api.Back, moved)
		v.send(api.Frame{Kind: api.Data, Stream: stream, Data: s})
	}
	return moved, e
}

// moveOn lets the client send as many bytes more as have left.
func (v *visit) moveOn(l lane, stream int, n int) (string, api.Errno) {
	s, e := l.Drain(api.Forth, n)
	if s == "" {
		return "", e
	}
	l.Grant(api.Forth, len(s))
	if session.Has(v.Session, stream) {
		window, _ := wire.Bytes(len(s))
		v.send(api.Frame{Kind: api.Window, Stream: stream, Data: window})
	}
	return s, e
}

func (v *visit) endBack(l lane, stream int) api.Errno {
	e := l.Event(api.EvEndOut)
	if e == api.OK && session.Has(v.Session, stream) {
		v.send(api.Frame{Kind: api.Close, Stream: stream})
	}
	return e
}
