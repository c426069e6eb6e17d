package stream

import (
	"iter"

	"wicketgate/api"
	"wicketgate/fault"
)

// phase is a state of a tunnel, or none.
type phase int

func (s phase) isState() bool { return s >= api.Idle && s <= api.Broken }

// flows tells whether bytes of the client, and of the target, may go on.
func (s phase) flows() (in bool, out bool) {
	switch s {
	case api.Up:
		out = true
		fallthrough // what may go on where the target ended may here
	case api.HalfOut:
		in = true
	case api.HalfIn:
		out = true
	}
	return in, out
}

// reached goes through the states that events lead to, those that fewer lead to first.
func (s phase) reached() iter.Seq2[phase, int] {
	return func(yield func(phase, int) bool) {
		met := map[phase]bool{s: true}
		for front, events := []phase{s}, 0; len(front) > 0; events++ {
			var next []phase
			for _, at := range front {
				if !yield(at, events) {
					return
				}
				for _, to := range at.nexts() {
					if !met[to] {
						met[to] = true
						next = append(next, to)
					}
				}
			}
			front = next
		}
	}
}

// nexts are the states that one event leads to.
func (s phase) nexts() []phase {
	var l []phase
	for event := api.EvOpen; event <= api.EvReset; event++ {
		if to, may := (move{s, event}).to(); may {
			l = append(l, to)
		}
	}
	return l
}

// move is an event in a state.
type move struct {
	at    phase
	event int
}

// to is the state behind a move, if it may happen.
func (m move) to() (phase, bool) {
	leads := [...]func(move) (phase, bool){
		api.EvOpen:   move.open,
		api.EvAccept: move.accept,
		api.EvRefuse: move.refuse,
		api.EvEndIn:  move.endIn,
		api.EvEndOut: move.endOut,
		api.EvReset:  move.reset,
	}
	if m.event < api.EvOpen || m.event > api.EvReset {
		return 0, false
	}
	return leads[m.event](m)
}

func (m move) isFromState() error { return fault.Unless(m.at.isState(), api.ErrArg) }

func (m move) mayHappen() error {
	_, may := m.to()
	return fault.Unless(may, api.ErrEvent)
}

func (m move) open() (phase, bool) { return api.Asked, m == move{api.Idle, api.EvOpen} }

func (m move) accept() (phase, bool) { return api.Up, m == move{api.Asked, api.EvAccept} }

func (m move) refuse() (phase, bool) { return api.Broken, m == move{api.Asked, api.EvRefuse} }

// endIn ends the tunnel just if the other side has ended.
func (m move) endIn() (phase, bool) {
	if m.at == api.HalfOut {
		return api.Over, true
	}
	return api.HalfIn, m.at == api.Up
}

func (m move) endOut() (phase, bool) {
	if m.at == api.HalfIn {
		return api.Over, true
	}
	return api.HalfOut, m.at == api.Up
}

func (m move) reset() (phase, bool) { return api.Broken, m.at >= api.Asked && m.at <= api.HalfOut }

// walk goes from state to state.
type walk struct {
	phase
	steps int
}

func (w *walk) step(event int) bool {
	to, may := move{w.phase, event}.to()
	if may {
		w.phase = to
		w.steps++
	}
	return may
}
