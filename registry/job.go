package registry

import (
	"slices"

	"wicketgate/acl"
	"wicketgate/api"
	"wicketgate/cred"
	"wicketgate/fault"
	"wicketgate/roles"
	"wicketgate/slots"
)

// job is a command that is done to a registry; where it answers an error it has changed nothing.
type job struct {
	api.Registry
	role    int
	command api.Command
	now     int
}

// do is the reply to the command, but its Seq.
func (j *job) do() (api.Reply, error) {
	c := j.command
	if !roles.May(j.role, c.Verb) {
		return api.Reply{}, fault.Of(api.ErrDenied)
	}
	ofAll := map[int]func() (api.Reply, error){api.Create: j.create, api.List: j.list}
	if do, ok := ofAll[c.Verb]; ok {
		return do()
	}
	at, found := place(j.Registry, c.Name)
	err := fault.First(
		func() error { return fault.Unless(found, api.ErrNone) },
		func() error { return fault.Unless(c.Want == 0 || c.Want == j.L[at].Version, api.ErrVersion) },
	)
	if err != nil {
		return api.Reply{}, err
	}
	if c.Verb == api.Delete {
		return j.remove(at)
	}
	if how, ok := changes()[c.Verb]; ok {
		return j.alter(at, how)
	}
	return told(j.L[at]), nil
}

func (j *job) list() (api.Reply, error) { return api.Reply{}, nil }

func (j *job) create() (api.Reply, error) {
	_, exists := place(j.Registry, j.command.Name)
	s, h, full := slots.Take(j.Slots)
	creds, _, wrong := cred.Rotate(nil, j.command.Key, j.now, 0, j.command.N)
	err := fault.First(
		func() error { return fault.Unless(isName(j.command.Name), api.ErrName) },
		func() error { return fault.Unless(!exists, api.ErrExists) },
		func() error { return fault.Of(full) },
		func() error { return fault.Of(wrong) },
	)
	if err != nil {
		return api.Reply{}, fault.Within("create", err)
	}
	t := api.Tenant{Handle: h, Name: j.command.Name, State: api.Active, Version: 1, Creds: creds}
	at := 0
	for at < len(j.L) && j.L[at].Handle.Slot < h.Slot {
		at++
	}
	j.Slots = s
	j.L = slices.Concat(j.L[:at:at], []api.Tenant{t}, j.L[at:])
	return told(t), nil
}

// remove tells the tenant as it was, but for its Version.
func (j *job) remove(at int) (api.Reply, error) {
	t := j.L[at]
	s, e := slots.Give(j.Slots, t.Handle)
	if e != api.OK {
		return api.Reply{}, fault.Of(e)
	}
	j.Slots = s
	j.L = append(j.L[:at:at], j.L[at+1:]...)
	t.Version++
	return told(t), nil
}

func (j *job) alter(at int, how func(*change) error) (api.Reply, error) {
	c := change{Tenant: j.L[at], command: j.command, now: j.now}
	if err := how(&c); err != nil {
		return api.Reply{}, fault.Within("tenant "+c.Name, err)
	}
	c.Version++
	j.L[at] = c.Tenant
	return told(c.Tenant), nil
}

func told(t api.Tenant) api.Reply {
	return api.Reply{Handle: t.Handle, Version: t.Version, State: t.State}
}

// changes are what verbs make of a tenant; those that just look at it are not among them.
func changes() map[int]func(*change) error {
	return map[int]func(*change) error{
		api.Suspend: (*change).suspend,
		api.Resume:  (*change).resume,
		api.Drain:   (*change).drain,
		api.Rotate:  (*change).rotate,
		api.Acl:     (*change).acl,
	}
}

// change is a tenant while a command, or the clock, changes it.
type change struct {
	api.Tenant
	command api.Command
	now     int
}

func (c *change) suspend() error {
	if c.State == api.Suspended {
		return fault.Of(api.ErrState)
	}
	c.State, c.Deadline = api.Suspended, 0
	return nil
}

func (c *change) resume() error {
	if c.State != api.Suspended {
		return fault.Of(api.ErrState)
	}
	c.State = api.Active
	return nil
}

func (c *change) drain() error {
	n := c.command.N
	if c.State != api.Active {
		return fault.Of(api.ErrState)
	}
	if n < 1 || n > api.MaxSpan || c.now+n > api.MaxTick {
		return fault.Of(api.ErrArg)
	}
	c.State, c.Deadline = api.Draining, c.now+n
	return nil
}

func (c *change) rotate() error {
	l, _, e := cred.Rotate(c.Creds, c.command.Key, c.now, c.command.N, c.command.M)
	if e == api.OK {
		c.Creds = l
	}
	return fault.Of(e)
}

// acl reads a place below 0 turned round less 1, which is all its bits turned round: so that holds of the least number too.
func (c *change) acl() error {
	l, e := []api.Rule(nil), api.OK
	if c.command.At >= 0 {
		l, e = acl.Insert(c.Rules, c.command.At, c.command.Rule)
	} else {
		l, e = acl.Remove(c.Rules, ^c.command.At)
	}
	if e == api.OK {
		c.Rules = l
	}
	return fault.Of(e)
}

// expire is what the clock does.
func (c *change) expire() error {
	if c.State != api.Draining || c.Deadline > c.now {
		return fault.Of(api.ErrState)
	}
	return c.suspend()
}
