package proxy

import (
	"iter"
	"maps"
	"strconv"

	"wicketgate/api"
	"wicketgate/fault"
	"wicketgate/session"
	"wicketgate/tunnel"
)

// capacity is that of each of a tunnel's queues.
const capacity = 1024

// key is where a tunnel stands.
type key struct {
	conn   int
	stream int
}

// lane is a tunnel, and the handle of its tenant. It is stopped when its session has not its stream open.
type lane struct {
	*tunnel.Tunnel
	handle api.Handle
}

// newLane is one that is up.
func newLane(h api.Handle) (lane, error) {
	t, e := tunnel.New(capacity)
	l := lane{t, h}
	return l, fault.First(
		func() error { return fault.Of(e) },
		l.does(l.Event, api.EvOpen, api.EvAccept),
		l.does(func(side int) api.Errno { return l.Grant(side, api.FirstGrant) }, api.Forth, api.Back),
	)
}

// does is a call with one number after the other, up to an error.
func (l lane) does(call func(int) api.Errno, numbers ...int) func() error {
	return func() error {
		for _, n := range numbers {
			if e := call(n); e != api.OK {
				return fault.Of(e)
			}
		}
		return nil
	}
}

// live goes through the tunnels of a handle that are not stopped, by connections, then streams.
func (p *Proxy) live(h api.Handle) iter.Seq[key] {
	return func(yield func(key) bool) {
		for conn, c := range p.clients {
			if c == nil {
				continue
			}
			for _, stream := range c.Open {
				k := key{conn, stream}
				if p.lanes[k].handle == h && !yield(k) {
					return
				}
			}
		}
	}
}

// enter finds a tunnel, stopped or not.
func (p *Proxy) enter(conn int, stream int) (*visit, lane, error) {
	v, err := p.visit(conn)
	if err != nil {
		return nil, lane{}, err
	}
	l, ok := p.lanes[key{conn, stream}]
	if !ok {
		return nil, lane{}, fault.Within("stream "+strconv.Itoa(stream), fault.Of(api.ErrStream))
	}
	return v, l, nil
}

// stop lets nothing be moved any more; what is on its way out may leave.
func (p *Proxy) stop(k key) {
	p.lanes[k].Stop()
	c := p.clients[k.conn]
	if s, e := session.Forget(c.Session, k.stream); e == api.OK {
		c.Session = s
	}
}

// cut stops tunnels, and tells their clients, as far as there is room.
func (p *Proxy) cut(found ...key) {
	for _, k := range found {
		p.stop(k)
		p.clients[k.conn].offer(api.Frame{Kind: api.Reset, Stream: k.stream})
	}
}

// forget lets all tunnels of a connection be gone.
func (p *Proxy) forget(conn int) {
	maps.DeleteFunc(p.lanes, func(k key, _ lane) bool { return k.conn == conn })
}
