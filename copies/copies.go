// Package copies lays what is handed in out in new memory, so that no answer shares any with it.
package copies

import (
	"slices"

	"wicketgate/api"
)

// Slots are new ones.
func Slots(s api.Slots) api.Slots {
	return api.Slots{Gens: slices.Clone(s.Gens), Used: slices.Clone(s.Used), Free: slices.Clone(s.Free)}
}

// Tenant is a new one.
func Tenant(t api.Tenant) api.Tenant {
	t.Rules = slices.Clone(t.Rules)
	t.Creds = slices.Clone(t.Creds)
	return t
}

// Registry is a new one.
func Registry(r api.Registry) api.Registry {
	r.Slots = Slots(r.Slots)
	r.L = each(r.L, Tenant)
	return r
}

// each is a new list of what is made of each of an old one's parts.
func each[T any](l []T, made func(T) T) []T {
	out := make([]T, 0, len(l))
	for _, x := range l {
		out = append(out, made(x))
	}
	return out
}

// Pool is a new one.
func Pool(p api.Pool) api.Pool {
	p.L = each(p.L, Snap)
	return p
}

// Snap is a new one.
func Snap(s api.Snap) api.Snap {
	s.Items = slices.Clone(s.Items)
	return s
}

// Session is a new one.
func Session(s api.Session) api.Session {
	s.Open = slices.Clone(s.Open)
	return s
}

// Control is new.
func Control(c api.Control) api.Control {
	c.Operators = slices.Clone(c.Operators)
	c.Registry = Registry(c.Registry)
	c.Pool = Pool(c.Pool)
	c.Jobs = slices.Clone(c.Jobs)
	c.Done = slices.Clone(c.Done)
	return c
}
