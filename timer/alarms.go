package timer

import (
	"cmp"
	"container/heap"
	"iter"
	"slices"
)

// alarm is a key with its tick.
type alarm struct {
	key int
	at  int
}

// order is by ticks, and by keys at one tick.
func (a alarm) order(b alarm) int {
	return cmp.Or(cmp.Compare(a.at, b.at), cmp.Compare(a.key, b.key))
}

// pile is a heap of alarms, which knows the place of each key.
type pile struct {
	l      []alarm
	places map[int]int
}

// Len is for package heap, as all that stands here with a great letter.
func (p *pile) Len() int { return len(p.l) }

// Less puts what is due first on top.
func (p *pile) Less(i, k int) bool {
	compare := p.l[i].order
	return compare(p.l[k]) < 0
}

// Swap keeps the places right.
func (p *pile) Swap(i, k int) {
	p.l[i], p.l[k] = p.l[k], p.l[i]
	p.places[p.l[i].key], p.places[p.l[k].key] = i, k
}

// Push is handed what this package gave.
func (p *pile) Push(x any) {
	a := x.(alarm)
	p.places[a.key] = len(p.l)
	p.l = append(p.l, a)
}

// Pop forgets the place too.
func (p *pile) Pop() any {
	last := len(p.l) - 1
	a := p.l[last]
	p.l = p.l[:last]
	delete(p.places, a.key)
	return a
}

// alarms are those of a timer; the heap is held within, so that its methods are not the timer's.
type alarms struct{ heap pile }

func (l *alarms) count() int { return l.heap.Len() }

func (l *alarms) first() alarm { return l.heap.l[0] }

func (l *alarms) has(key int) bool {
	_, ok := l.heap.places[key]
	return ok
}

func (l *alarms) of(key int) alarm { return l.heap.l[l.heap.places[key]] }

func (l *alarms) keep(a alarm) { heap.Push(&l.heap, a) }

// forget takes keys away, and tells how many were there.
func (l *alarms) forget(keys ...int) int {
	gone := 0
	for _, key := range keys {
		if place, ok := l.heap.places[key]; ok && heap.Remove(&l.heap, place).(alarm).key == key {
			gone++
		}
	}
	return gone
}

// inOrder goes through the alarms that there were when it was begun.
func (l *alarms) inOrder() iter.Seq[alarm] {
	return func(yield func(alarm) bool) {
		for _, a := range slices.SortedFunc(slices.Values(l.heap.l), alarm.order) {
			if !yield(a) {
				return
			}
		}
	}
}

// upTo are the keys that are due at a tick.
func (l *alarms) upTo(now int) []int {
	var keys []int
due:
	for a := range l.inOrder() {
		switch {
		case a.at > now:
			break due
		default:
			keys = append(keys, a.key)
		}
	}
	return keys
}
