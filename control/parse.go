package control

import (
	"wicketgate/acl"
	"wicketgate/api"
	"wicketgate/fault"
	"wicketgate/roles"
	"wicketgate/scan"
	"wicketgate/words"
)

// Parse is what a line asks.
func Parse(line string) (api.Request, api.Errno) {
	l, e := words.Split(line)
	if e != api.OK {
		return api.Request{}, e
	}
	r := reader{left: l}
	if err := r.request(); err != nil {
		return api.Request{}, fault.No(err)
	}
	return r.Request, api.OK
}

// parts are what stands behind each verb's word.
func parts() map[int][]func(*reader) bool {
	name, want, key, n, m := (*reader).name, (*reader).want, (*reader).key, (*reader).n, (*reader).m
	plain := []func(*reader) bool{name, want}
	return map[int][]func(*reader) bool{
		api.Create:  {name, key, n},
		api.Suspend: plain,
		api.Resume:  plain,
		api.Drain:   {name, want, n},
		api.Delete:  plain,
		api.Rotate:  {name, want, key, n, m},
		api.Acl:     {name, want, (*reader).rules},
		api.Kill:    plain,
		api.List:    {(*reader).count, (*reader).page},
		api.Show:    plain,
	}
}

// reader reads a request, word by word.
type reader struct {
	api.Request
	left []string
}

func (r *reader) request() error {
	if !r.read((*reader).who, (*reader).id, (*reader).verb) {
		return fault.Within("who, number, verb", fault.Of(api.ErrSyntax))
	}
	if !r.read(parts()[r.Command.Verb]...) || len(r.left) > 0 {
		return fault.Within("words behind a verb", fault.Of(api.ErrSyntax))
	}
	return nil
}

func (r *reader) read(parts ...func(*reader) bool) bool {
	for _, part := range parts {
		if !part(r) {
			return false
		}
	}
	return true
}

// word takes the next word, if there is one.
func (r *reader) word(into *string) bool {
	if len(r.left) == 0 {
		return false
	}
	*into, r.left = r.left[0], r.left[1:]
	return true
}

// number takes the next word as a number.
func (r *reader) number(into *int, least int, most int) bool {
	s := ""
	if !r.word(&s) {
		return false
	}
	n, ok := scan.Number(s, most)
	*into = n
	return ok && n >= least
}

func (r *reader) who() bool { return r.word(&r.Who) }

func (r *reader) id() bool { return r.number(&r.Id, 1, api.MaxRequest) }

func (r *reader) verb() bool {
	s := ""
	ok := r.word(&s)
	v, e := roles.Verb(s)
	r.Command.Verb = v
	return ok && e == api.OK
}

func (r *reader) name() bool { return r.word(&r.Command.Name) }

func (r *reader) want() bool { return r.number(&r.Command.Want, 0, api.MaxTick) }

func (r *reader) key() bool { return r.word(&r.Command.Key) }

func (r *reader) n() bool { return r.number(&r.Command.N, 0, api.MaxTick) }

func (r *reader) m() bool { return r.number(&r.Command.M, 0, api.MaxTick) }

func (r *reader) rules() bool {
	change := ""
	if !r.word(&change) || !r.number(&r.Command.At, 0, api.MaxTick) {
		return false
	}
	switch change {
	case "insert":
		return r.rule()
	case "remove":
		r.Command.At = -r.Command.At - 1
		return true
	}
	return false
}

func (r *reader) rule() bool {
	s := ""
	ok := r.word(&s)
	x, e := acl.Parse(s)
	r.Command.Rule = x
	return ok && e == api.OK
}

func (r *reader) count() bool { return r.number(&r.Count, 1, api.MaxCount) }

// page may be left out whole.
func (r *reader) page() bool {
	return len(r.left) == 0 || r.number(&r.Cursor, 1, api.MaxTick) && r.number(&r.From, 0, api.MaxTick)
}
