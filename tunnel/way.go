package tunnel

import (
	"wicketgate/api"
	"wicketgate/credit"
	"wicketgate/fault"
	"wicketgate/fifo"
)

// counts are how many bytes went through a direction's ends.
type counts struct {
	fed     int
	moved   int
	drained int
}

// way is a direction: what came, what is to go, and how much may be moved.
type way struct {
	counts
	in     *fifo.Fifo
	out    *fifo.Fifo
	credit api.Credit
}

func newWay(capacity int) (*way, api.Errno) {
	in, e := fifo.New(capacity)
	if e != api.OK {
		return nil, e
	}
	out, e := fifo.New(capacity)
	return &way{in: in, out: out}, e
}

func (w *way) grant(n int) error {
	c, e := credit.Grant(w.credit, n)
	if e == api.OK {
		w.credit = c
	}
	return fault.Of(e)
}

func (w *way) feed(s string) int {
	n := w.in.Push(s)
	w.fed += n
	return n
}

// move moves at most n bytes, and as many as the credit and both queues allow.
func (w *way) move(n int) int {
	most := credit.Most(w.credit, append(numbers(w.in.Len, w.out.Room), n))
	spent, e := credit.Spend(w.credit, most)
	if e != api.OK {
		return 0
	}
	w.credit = spent
	w.moved += w.out.Push(w.in.Pop(most))
	return most
}

func (w *way) drain(n int) string {
	s := w.out.Pop(n)
	w.drained += len(s)
	return s
}

func (w *way) empty() int { return w.in.Clear() }

// numbers are what some calls tell.
func numbers(calls ...func() int) []int {
	l := make([]int, 0, len(calls)+1)
	for _, call := range calls {
		l = append(l, call())
	}
	return l
}
