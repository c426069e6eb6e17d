package acl

import (
	"container/heap"
	"iter"
	"slices"
	"sort"

	"wicketgate/addr"
	"wicketgate/api"
	"wicketgate/ports"
)

// rule is one that is not known to be right.
type rule api.Rule

func (r rule) hasPrefix() bool { return addr.Right(r.Prefix) }

func (r rule) hasPorts() bool { return ports.Right(r.Ports) }

// rules are a list of them.
type rules []api.Rule

func (l rules) each() iter.Seq2[int, rule] {
	return func(yield func(int, rule) bool) {
		for i, r := range l {
			if !yield(i, rule(r)) {
				return
			}
		}
	}
}

// sorted are the places of the rules for which all that is asked holds.
func (l rules) sorted(asked ...func(rule) bool) *places {
	left := &places{}
sorting:
	for i, r := range l.each() {
		for _, holds := range asked {
			if !holds(r) {
				continue sorting
			}
		}
		heap.Push(left, i)
	}
	return left
}

func (l rules) areRight() bool {
	return len(l) <= api.MaxRules && l.sorted(rule.hasPrefix, rule.hasPorts).Len() == len(l)
}

// places is a heap of them, the first one on top.
type places struct{ sort.IntSlice }

// Push is for package heap, which hands in what this package gave it.
func (p *places) Push(x any) { p.IntSlice = append(p.IntSlice, x.(int)) }

// Pop is for package heap.
func (p *places) Pop() any {
	last := p.Len() - 1
	place := p.IntSlice[last]
	p.IntSlice = slices.Delete(p.IntSlice, last, last+1)
	return place
}

// answer is what rules say of a target.
type answer interface {
	tell() (pass bool, place int)
}

// silence is the answer of rules of which none fits.
type silence struct{}

func (silence) tell() (bool, int) { return false, -1 }

// verdict is the answer of the rule at a place.
type verdict struct {
	rule
	place int
}

func (v verdict) tell() (bool, int) { return v.Allow, v.place }

// decider holds rules, which are right, against a target.
type decider struct {
	rules
	target api.Target
}

func (d decider) hasAddr(r rule) bool { return addr.Has(r.Prefix, d.target.Addr) }

func (d decider) hasPort(r rule) bool { return ports.Has(r.Ports, d.target.Port) }

// left are the rules that fit.
func (d decider) left() *places { return d.sorted(d.hasAddr, d.hasPort) }

func (d decider) answer() answer {
	left := d.left()
	if left.Len() == 0 {
		return silence{}
	}
	first := heap.Pop(left).(int)
	return verdict{rule(d.rules[first]), first}
}
