package registry

import (
	"wicketgate/acl"
	"wicketgate/api"
	"wicketgate/check"
	"wicketgate/cred"
	"wicketgate/slots"
	"wicketgate/words"
)

func isName(s string) bool { return s != "" && len(s) <= api.MaxName && words.Right(s) }

// book is a registry that is not known to be right.
type book struct{ api.Registry }

func (b book) hasSlots() bool { return slots.Right(b.Slots) }

func (b book) hasSeq() bool { return b.Seq >= 0 && b.Seq <= api.MaxTick }

func (b book) hasHandles() bool {
	handles := slots.All(b.Slots)
	if len(handles) != len(b.L) {
		return false
	}
	for at, t := range tenants(b.Registry) {
		if t.Handle != handles[at] {
			return false
		}
	}
	return true
}

func (b book) hasTenants() bool {
	for _, t := range tenants(b.Registry) {
		e := entry{t, b.Seq}
		if !check.All(e.hasName, e.hasState, e.hasVersion, e.hasRules, e.hasCreds, e.hasDeadline) {
			return false
		}
	}
	return true
}

func (b book) hasNames() bool {
	met := map[string]bool{}
	for _, name := range Names(b.Registry) {
		met[name] = true
	}
	return len(met) == len(b.L)
}

// entry is a tenant in a registry of that Seq.
type entry struct {
	api.Tenant
	seq int
}

func (e entry) hasName() bool { return isName(e.Name) }

func (e entry) hasState() bool { return e.State >= api.Active && e.State <= api.Draining }

func (e entry) hasVersion() bool { return e.Version >= 1 && e.Version <= e.seq }

func (e entry) hasRules() bool { return acl.Right(e.Rules) }

func (e entry) hasCreds() bool { return cred.Right(e.Creds) }

func (e entry) hasDeadline() bool {
	return e.Deadline == 0 || e.State == api.Draining && e.Deadline > 0 && e.Deadline <= api.MaxTick
}
