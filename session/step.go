package session

import (
	"errors"
	"slices"

	"wicketgate/acl"
	"wicketgate/api"
	"wicketgate/cred"
	"wicketgate/fault"
	"wicketgate/mac"
	"wicketgate/ports"
	"wicketgate/registry"
	"wicketgate/wire"
)

// step is a session to which a frame comes.
type step struct {
	api.Session
	frame    api.Frame
	registry api.Registry
	now      int
	replies  []api.Frame
	act      api.Act
}

// meanings are what kinds of frames mean in each phase; any other one is a session's death.
func meanings() map[int]map[int]func(*step) {
	return map[int]map[int]func(*step){
		api.Fresh:      {api.Ping: (*step).echo, api.Hello: (*step).ask},
		api.Challenged: {api.Ping: (*step).echo, api.Auth: (*step).prove},
		api.Ready: {
			api.Ping:   (*step).echo,
			api.Open:   (*step).open,
			api.Data:   (*step).data,
			api.Window: (*step).grant,
			api.Close:  (*step).end,
			api.Reset:  (*step).reset,
		},
	}
}

func (m *step) do() {
	if m.Phase == api.Dead {
		return
	}
	mean, ok := meanings()[m.Phase][m.frame.Kind]
	if !ok {
		mean = (*step).die
	}
	mean(m)
	if m.act == (api.Act{Kind: api.ActDead}) {
		m.Session = api.Session{Phase: api.Dead, A: m.A, B: m.B}
	}
}

func (m *step) die() { m.act = api.Act{Kind: api.ActDead} }

func (m *step) reply(kind int, data string) {
	m.replies = append(m.replies, api.Frame{Kind: kind, Stream: m.frame.Stream, Data: data})
}

func (m *step) echo() { m.reply(api.Ping, m.frame.Data) }

func (m *step) ask() {
	m.Phase, m.Name = api.Challenged, m.frame.Data
	m.reply(api.Auth, m.challenge())
}

// challenge is of numbers that are right in a session that is.
func (m *step) challenge() string {
	c, _ := mac.Challenge(m.A, m.B)
	return c
}

func (m *step) prove() {
	t, ok := m.tenant()
	if !ok {
		m.die()
		return
	}
	if _, ok := cred.Check(t.Creds, m.now, m.challenge(), m.Name, m.frame.Data); !ok {
		m.die()
		return
	}
	m.Phase, m.Handle = api.Ready, t.Handle
	m.reply(api.Hello, m.Name)
	m.act = api.Act{Kind: api.ActReady}
}

// tenant is the session's, if its clients may open anything now; one of its name that came later is another one.
func (m *step) tenant() (api.Tenant, bool) {
	t, ok := registry.Find(m.registry, m.Name)
	if !ok || t.State != api.Active || m.Phase == api.Ready && t.Handle != m.Handle {
		return api.Tenant{}, false
	}
	return t, true
}

// open tells a client that opens what is open by its death, and one that may not by a reset.
func (m *step) open() {
	err := fault.First(m.isNew, m.isAllowed, m.hasRoom)
	switch {
	case errors.Is(err, fault.Of(api.ErrStream)):
		m.die()
	case err != nil:
		m.reply(api.Reset, "")
	default:
		at, _ := slices.BinarySearch(m.Open, m.frame.Stream)
		m.Open = slices.Insert(m.Open, at, m.frame.Stream)
		window, _ := wire.Bytes(api.FirstGrant)
		m.reply(api.Window, window)
		m.act = api.Act{Kind: api.ActOpen, Stream: m.frame.Stream, Target: m.target()}
	}
}

func (m *step) isNew() error { return fault.Unless(!Has(m.Session, m.frame.Stream), api.ErrStream) }

func (m *step) hasRoom() error { return fault.Unless(len(m.Open) < api.MaxOpen, api.ErrFull) }

// target is an empty one, which no rules allow, where the data are none's text.
func (m *step) target() api.Target {
	t, _ := ports.ParseTarget(m.frame.Data)
	return t
}

func (m *step) isAllowed() error {
	t, ok := m.tenant()
	if !ok {
		return fault.Of(api.ErrNone)
	}
	pass, _, _ := acl.Decide(t.Rules, m.target())
	return fault.Unless(pass, api.ErrTarget)
}

func (m *step) data() { m.want(api.Act{Kind: api.ActData, Data: m.frame.Data}) }

func (m *step) grant() { m.want(api.Act{Kind: api.ActGrant, N: wire.Number(m.frame.Data)}) }

func (m *step) end() { m.want(api.Act{Kind: api.ActEnd}) }

// want asks for an act on the frame's stream, if that is open.
func (m *step) want(act api.Act) {
	if m.isNew() == nil {
		m.reply(api.Reset, "")
		return
	}
	act.Stream = m.frame.Stream
	m.act = act
}

func (m *step) reset() {
	if m.isNew() == nil {
		return
	}
	m.Session = without(m.Session, m.frame.Stream)
	m.act = api.Act{Kind: api.ActReset, Stream: m.frame.Stream}
}
