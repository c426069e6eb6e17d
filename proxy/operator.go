package proxy

import (
	"strconv"
	"strings"

	"wicketgate/api"
	"wicketgate/control"
	"wicketgate/fault"
	"wicketgate/fifo"
)

// How great an operator's queues are, what ends a line, and how much room there must be for a reply.
const (
	operatorIn  = 512
	operatorOut = 1024
	lineEnd     = "\n"
	replyRoom   = api.MaxLine + 1
)

// operator is a connection of one.
type operator struct {
	in  *fifo.Fifo
	out *fifo.Fifo
}

func newOperator() *operator { return &operator{in: queue(operatorIn), out: queue(operatorOut)} }

func (p *Proxy) operator(conn int) (*operator, error) {
	if err := fault.First(isThere(p), isConn(conn)); err != nil {
		return nil, fault.Within("operator "+strconv.Itoa(conn), err)
	}
	return p.operators[conn], nil
}

// work is what a call does for an operator.
type work struct {
	*operator
	proxy *Proxy
	conn  int
}

// begin takes a line; one that does not end, though IN is full, is cut there.
func (w work) begin() error {
	line, _, ended := strings.Cut(w.in.Peek(w.in.Len()), lineEnd)
	if !ended && w.in.Room() > 0 {
		return fault.Of(api.ErrMore)
	}
	c, e := control.Call(w.proxy.control, w.conn, line)
	if e != api.OK {
		return fault.Within("line", fault.Of(e))
	}
	w.proxy.control = c
	w.in.Pop(len(line) + len(lineEnd))
	return nil
}

func (w work) step(job api.Job) error {
	if w.out.Room() < replyRoom {
		return fault.Of(api.ErrFull)
	}
	p := w.proxy
	c, effect, e := control.Step(p.control, w.conn, p.clock, p.Count(job.Handle))
	if e != api.OK {
		return fault.Within("step", fault.Of(e))
	}
	p.control = c
	if do, asked := w.effects()[effect.Kind]; asked {
		do(effect)
	}
	return nil
}

// effects are what effects ask for; another one asks for nothing.
func (w work) effects() map[int]func(api.Effect) {
	return map[int]func(api.Effect){api.EffectStop: w.stop, api.EffectReply: w.reply}
}

// stop stops the first tunnel of a handle alone: each one is a step.
func (w work) stop(e api.Effect) {
stopping:
	for k := range w.proxy.live(e.Handle) {
		w.proxy.cut(k)
		break stopping
	}
}

func (w work) reply(e api.Effect) { w.out.Push(e.Text + lineEnd) }
