package control

import (
	"slices"
	"strconv"

	"wicketgate/api"
	"wicketgate/registry"
	"wicketgate/roles"
	"wicketgate/snaps"
	"wicketgate/words"
)

// step is a job of which a step is made.
type step struct {
	api.Job
	control api.Control
	now     int
	left    int
	effect  api.Effect
}

func phases() map[int]func(*step) {
	return map[int]func(*step){
		api.Parsing:    (*step).parse,
		api.Asking:     (*step).ask,
		api.Committing: (*step).commit,
		api.Sweeping:   (*step).sweep,
		api.Replying:   (*step).finish,
	}
}

func (s *step) parse() {
	r, e := Parse(s.Line)
	s.Req, s.Phase = r, api.Asking
	if e != api.OK {
		s.refuse(api.ErrSyntax)
	}
}

func (s *step) ask() {
	role, e := roles.Find(s.control.Operators, s.Req.Who)
	s.Role, s.Phase = role, api.Committing
	if e != api.OK {
		s.refuse(e)
	}
}

// commit does the whole command at once, or tells once more what was answered.
func (s *step) commit() {
	var r api.Registry
	var reply api.Reply
	text, known := s.answered()
	s.Phase = api.Replying
	if known {
		s.Reply = text
		return
	}
	r, reply = registry.Apply(s.control.Registry, s.Role, s.Req.Command, s.now)
	if reply.Err == api.ErrRegistry {
		s.refuse(reply.Err)
		goto noted
	}
	s.control.Registry = r
	if reply.Err != api.OK {
		s.refuse(reply.Err)
		goto noted
	}
	s.told()[s.Req.Command.Verb](reply)
noted:
	s.note()
}

// told are what is told of commands that were done, by their verbs.
func (s *step) told() map[int]func(api.Reply) {
	return map[int]func(api.Reply){
		api.Create:  s.tell,
		api.Suspend: s.stop,
		api.Resume:  s.tell,
		api.Drain:   s.tell,
		api.Delete:  s.stop,
		api.Rotate:  s.tell,
		api.Acl:     s.tell,
		api.Kill:    s.stop,
		api.List:    s.list,
		api.Show:    s.tell,
	}
}

func (s *step) sweep() {
	if s.left > 0 {
		s.effect = api.Effect{Kind: api.EffectStop, Handle: s.Handle}
		return
	}
	s.Phase = api.Replying
}

func (s *step) finish() { s.effect = api.Effect{Kind: api.EffectReply, Text: s.Reply} }

func (s *step) refuse(e api.Errno) {
	s.say("error", text(s.Req.Id), text(int(e)))
	s.Phase = api.Replying
}

func (s *step) tell(r api.Reply) {
	s.say("ok", text(s.Req.Id), text(r.Seq), text(r.Handle.Slot), text(r.Handle.Gen), text(r.Version), text(r.State))
}

// stop lets the tenant's tunnels be stopped ahead of the reply.
func (s *step) stop(r api.Reply) {
	s.tell(r)
	s.Phase, s.Handle = api.Sweeping, r.Handle
}

// list leaves the pool as it was, unless a page is told.
func (s *step) list(r api.Reply) {
	pool, cursor, e := s.control.Pool, s.Req.Cursor, api.OK
	if cursor == 0 {
		pool, cursor, e = snaps.Pin(pool, registry.Names(s.control.Registry), s.now)
	}
	if e != api.OK {
		s.refuse(e)
		return
	}
	pool, names, behind, e := snaps.Page(pool, cursor, s.Req.From, s.Req.Count, s.now)
	if e != api.OK {
		s.refuse(e)
		return
	}
	s.control.Pool = pool
	place := "end"
	if behind != -1 {
		place = text(behind)
	}
	s.say(slices.Concat([]string{"ok", text(s.Req.Id), text(r.Seq), text(cursor), place}, names)...)
}

// say is empty, where the words are no line.
func (s *step) say(l ...string) {
	line, _ := words.Print(l)
	s.Reply = line
}

// asker is to whom, and under which number, a reply was given.
type asker struct {
	who string
	id  int
}

func (s *step) answered() (string, bool) {
	for _, a := range s.control.Done {
		if (asker{a.Who, a.Id}) == (asker{s.Req.Who, s.Req.Id}) {
			return a.Text, true
		}
	}
	return "", false
}

// note keeps no more replies than there may be.
func (s *step) note() {
	s.control.Done = append(s.control.Done, api.Answered{Who: s.Req.Who, Id: s.Req.Id, Text: s.Reply})
	if len(s.control.Done) > api.MaxDone {
		s.control.Done = s.control.Done[1:]
	}
}

func text(n int) string { return strconv.Itoa(n) }
