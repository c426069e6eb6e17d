// Package fifo is layer 1: queues of bytes, of a bounded length.
package fifo

import (
	"iter"

	"wicketgate/api"
)

// Fifo is a queue of bytes.
type Fifo struct{ ring }

// ring keeps its bytes in a circle, so that taking the first one moves none of the others.
type ring struct {
	cells []byte
	first int
	count int
}

// New is a queue of a capacity.
func New(capacity int) (*Fifo, api.Errno) {
	if capacity < 1 || capacity > api.MaxQueue {
		return nil, api.ErrArg
	}
	return &Fifo{ring{cells: make([]byte, capacity)}}, api.OK
}

// Push puts bytes behind all others, as many as there is room for, and tells how many.
func (f *Fifo) Push(s string) int {
	if f == nil {
		return 0
	}
	return fill(f.put, s)
}

// Pop takes the first n bytes.
func (f *Fifo) Pop(n int) string {
	s := f.Peek(n)
	if s != "" {
		f.repeat(len(s), (*ring).drop)
	}
	return s
}

// Peek tells the first n bytes.
func (f *Fifo) Peek(n int) string {
	if f == nil {
		return ""
	}
	return string(f.front(n))
}

// Clear takes all bytes, and tells how many there were.
func (f *Fifo) Clear() int {
	if f == nil {
		return 0
	}
	return f.repeat(f.count, (*ring).drop)
}

// Len is how many bytes there are.
func (f *Fifo) Len() int {
	if f == nil {
		return 0
	}
	return f.count
}

// Room is how many more there may be.
func (f *Fifo) Room() int {
	if f == nil {
		return 0
	}
	return len(f.cells) - f.count
}

// turner tells which cell stands so far behind another one, in a circle of that size.
func turner(size int) func(cell int, by int) int {
	return func(cell int, by int) int { return (cell + by) % size }
}

func (r *ring) put(b byte) bool {
	if r.count == len(r.cells) {
		return false
	}
	turn := turner(len(r.cells))
	r.cells[turn(r.first, r.count)] = b
	r.count++
	return true
}

// drop wipes the byte too: what was taken is not kept.
func (r *ring) drop() bool {
	if r.count == 0 {
		return false
	}
	turn := turner(len(r.cells))
	r.cells[r.first] = 0
	r.first = turn(r.first, 1)
	r.count--
	return true
}

// front copies two pieces, since the circle's end may part the bytes.
func (r *ring) front(n int) []byte {
	n = max(0, min(n, r.count))
	out := make([]byte, n)
	end := min(r.first+n, len(r.cells))
	k := copy(out, r.cells[r.first:end:end])
	rest := n - k
	copy(out[k:], r.cells[:rest:rest])
	return out
}

// repeat does one thing up to n times, as long as it can be done.
func (r *ring) repeat(n int, do func(*ring) bool) int {
	done := 0
	for done < n && do(r) {
		done++
	}
	return done
}

// bytesOf goes through a text byte by byte, since a range over the text itself would go by runes.
func bytesOf(s string) iter.Seq[byte] {
	return func(yield func(byte) bool) {
		for i := range len(s) {
			if !yield(s[i]) {
				return
			}
		}
	}
}

// fill hands bytes of one text after the other on, up to the first one that is refused.
func fill(put func(byte) bool, texts ...string) int {
	taken := 0
filling:
	for _, s := range texts {
		for b := range bytesOf(s) {
			if !put(b) {
				break filling
			}
			taken++
		}
	}
	return taken
}
