package registry_test

import (
	"maps"
	"math"
	"math/rand"
	"slices"
	"strconv"
	"strings"
	"testing"

	"wicketgate/acl"
	"wicketgate/api"
	"wicketgate/cred"
	"wicketgate/registry"
	"wicketgate/slots"
)

const last = api.MaxTick

var (
	rule  = api.Rule{Allow: true, Ports: api.Ports{To: 65535}}
	other = api.Rule{Prefix: api.Prefix{Addr: 10 << 24, Bits: 8}, Ports: api.Ports{From: 22, To: 22}}
	wrong = api.Rule{Ports: api.Ports{From: 1}}
)

func clone(r api.Registry) api.Registry {
	r.Slots = api.Slots{Gens: slices.Clone(r.Slots.Gens), Used: slices.Clone(r.Slots.Used), Free: slices.Clone(r.Slots.Free)}
	r.L = slices.Clone(r.L)
	for i, t := range r.L {
		r.L[i].Rules, r.L[i].Creds = slices.Clone(t.Rules), slices.Clone(t.Creds)
	}
	return r
}

func creating(name string) api.Command {
	return api.Command{Verb: api.Create, Name: name, Key: "k", N: 100}
}

func made(t *testing.T, n int, names ...string) api.Registry {
	t.Helper()
	r, e := registry.New(n)
	if e != api.OK {
		t.Fatal(e)
	}
	for _, name := range names {
		r = done(t, r, creating(name), 0)
	}
	return r
}

// done gives a command as a governor that must be done.
func done(t *testing.T, r api.Registry, c api.Command, now int) api.Registry {
	t.Helper()
	x, reply := registry.Apply(r, api.Governor, c, now)
	if reply.Err != api.OK {
		t.Fatalf("%+v: %+v", c, reply)
	}
	return x
}

func find(t *testing.T, r api.Registry, name string) api.Tenant {
	t.Helper()
	x, ok := registry.Find(r, name)
	if !ok {
		t.Fatalf("no %q", name)
	}
	return x
}

// sample has three tenants, one in each state.
func sample(t *testing.T) api.Registry {
	r := made(t, 4, "act", "sus", "dra")
	r = done(t, r, api.Command{Verb: api.Acl, Name: "act", Rule: rule}, 0)
	r = done(t, r, api.Command{Verb: api.Suspend, Name: "sus"}, 0)
	r = done(t, r, api.Command{Verb: api.Drain, Name: "dra", N: 50}, 10)
	if !registry.Right(r) || find(t, r, "dra").Deadline != 60 || find(t, r, "dra").State != api.Draining || find(t, r, "sus").State != api.Suspended {
		t.Fatalf("%+v", r)
	}
	return r
}

// P15.1: new registries.
func TestP15_1New(t *testing.T) {
	for _, n := range []int{1, 7, 64} {
		r, e := registry.New(n)
		s, _ := slots.New(n)
		if e != api.OK || !slots.Same(r.Slots, s) || len(r.L) != 0 || r.Seq != 0 || !registry.Right(r) || len(registry.Names(r)) != 0 {
			t.Errorf("New(%d): %+v %d", n, r, e)
		}
	}
	for _, n := range []int{0, -1, 65, math.MaxInt} {
		if r, e := registry.New(n); e != api.ErrArg || !registry.Same(r, api.Registry{}) {
			t.Errorf("New(%d): %+v %d", n, r, e)
		}
	}
}

// breaks are what makes a right registry wrong.
var breaks = map[string]func(*api.Registry){
	"slots":           func(r *api.Registry) { r.Slots.Free = nil },
	"used":            func(r *api.Registry) { r.Slots.Used[0] = false },
	"seq below":       func(r *api.Registry) { r.Seq = -1 },
	"seq above":       func(r *api.Registry) { r.Seq = last + 1 },
	"missing":         func(r *api.Registry) { r.L = r.L[:2] },
	"more":            func(r *api.Registry) { r.L = append(r.L, r.L[2]); r.L[3].Name = "x" },
	"order":           func(r *api.Registry) { r.L[0], r.L[1] = r.L[1], r.L[0] },
	"gen":             func(r *api.Registry) { r.L[0].Handle.Gen = 9 },
	"slot":            func(r *api.Registry) { r.L[2].Handle.Slot = 3 },
	"no name":         func(r *api.Registry) { r.L[0].Name = "" },
	"long name":       func(r *api.Registry) { r.L[0].Name = strings.Repeat("n", 41) },
	"strange name":    func(r *api.Registry) { r.L[0].Name = "a\n" },
	"same name":       func(r *api.Registry) { r.L[0].Name = "dra" },
	"no state":        func(r *api.Registry) { r.L[0].State = 0 },
	"strange state":   func(r *api.Registry) { r.L[0].State = 4 },
	"version below":   func(r *api.Registry) { r.L[0].Version = 0 },
	"version above":   func(r *api.Registry) { r.L[0].Version = r.Seq + 1 },
	"rules":           func(r *api.Registry) { r.L[0].Rules = []api.Rule{wrong} },
	"creds":           func(r *api.Registry) { r.L[0].Creds[0].Id = 0 },
	"deadline":        func(r *api.Registry) { r.L[0].Deadline = 5 },
	"deadline of sus": func(r *api.Registry) { r.L[1].Deadline = 5 },
	"deadline below":  func(r *api.Registry) { r.L[2].Deadline = -1 },
	"deadline above":  func(r *api.Registry) { r.L[2].Deadline = last + 1 },
}

// P15.1, P15.2, P15.3: registries that are right, and what is done with others.
func TestP15_1Right(t *testing.T) {
	r := sample(t)
	for _, change := range []func(*api.Registry){
		func(r *api.Registry) { r.Seq = last }, func(r *api.Registry) { r.L[0].Version = r.Seq }, func(r *api.Registry) { r.L[2].Deadline = 0 }, func(r *api.Registry) { r.L[2].Deadline = last },
		func(r *api.Registry) { r.L[0].Name = strings.Repeat("n", 40) }, func(r *api.Registry) { r.L[0].Name = `a "b"` }, func(r *api.Registry) { r.L[0].Creds = nil }, func(r *api.Registry) { r.L[0].Rules = slices.Repeat([]api.Rule{rule}, 16) },
	} {
		x := clone(r)
		change(&x)
		if !registry.Right(x) {
			t.Errorf("%+v is wrong", x)
		}
	}
	for name, change := range breaks {
		x := clone(r)
		change(&x)
		before := clone(x)
		if registry.Right(x) || registry.Right(api.Registry{}) {
			t.Errorf("%s: right", name)
		}
		if y, reply := registry.Apply(x, api.Governor, api.Command{Verb: api.List}, 5); reply != (api.Reply{Err: api.ErrRegistry}) || !registry.Same(y, api.Registry{}) {
			t.Errorf("%s: %+v", name, reply)
		}
		y := registry.Tick(x, 1000)
		if !registry.Same(y, before) {
			t.Errorf("%s: the clock changes it", name)
		}
		for i := range y.L {
			y.L[i].Name = "changed"
			for k := range y.L[i].Creds {
				y.L[i].Creds[k].Key = "changed"
			}
		}
		if !registry.Same(x, before) {
			t.Errorf("%s: memory is shared", name)
		}
	}
}

// P15.1: what is found, and all names, of any registry.
func TestP15_1Find(t *testing.T) {
	r := sample(t)
	if l := registry.Names(r); !slices.Equal(l, []string{"act", "sus", "dra"}) {
		t.Error(l)
	}
	x := find(t, r, "act")
	if x.Handle != (api.Handle{Slot: 0, Gen: 1}) || x.Name != "act" || x.Version != 2 || len(x.Creds) != 1 || !slices.Equal(x.Rules, []api.Rule{rule}) {
		t.Errorf("%+v", x)
	}
	x.Rules[0], x.Creds[0].Key = other, "changed"
	_ = append(x.Rules, other)
	if y := find(t, r, "act"); y.Rules[0] != rule || y.Creds[0].Key != "k" {
		t.Error("memory is shared")
	}
	for _, name := range []string{"", "ac", "Act", "act "} {
		if y, ok := registry.Find(r, name); ok || y.Name != "" || y.Handle != (api.Handle{}) || y.Creds != nil {
			t.Errorf("%q: %+v", name, y)
		}
	}
	any := api.Registry{L: []api.Tenant{{Name: "b"}, {Name: ""}, {Name: "b", Version: 7}}}
	if y, ok := registry.Find(any, "b"); !ok || y.Version != 0 {
		t.Errorf("%+v", y)
	}
	if _, ok := registry.Find(any, ""); !ok || !slices.Equal(registry.Names(any), []string{"b", "", "b"}) {
		t.Error("a registry that is not right")
	}
}

// P15.1: each field makes a difference.
func TestP15_1Same(t *testing.T) {
	r := sample(t)
	if !registry.Same(r, clone(r)) || !registry.Same(api.Registry{}, api.Registry{L: []api.Tenant{}}) {
		t.Error("the same are not")
	}
	more := maps.Clone(breaks)
	more["key"] = func(r *api.Registry) { r.L[0].Creds[0].Key = "x" }
	more["rule"] = func(r *api.Registry) { r.L[0].Rules[0].Allow = false }
	more["version"] = func(r *api.Registry) { r.L[0].Version++ }
	more["no creds"] = func(r *api.Registry) { r.L[0].Creds = nil }
	for name, change := range more {
		x := clone(r)
		change(&x)
		if registry.Same(x, r) || registry.Same(r, x) || !registry.Same(x, clone(x)) {
			t.Errorf("%s", name)
		}
	}
}

// P15.2: the ends of Seq and of the tick.
func TestP15_2Registry(t *testing.T) {
	r := sample(t)
	for _, now := range []int{-1, last + 1, math.MinInt, math.MaxInt} {
		if x, reply := registry.Apply(r, api.Governor, api.Command{Verb: api.List}, now); reply != (api.Reply{Err: api.ErrRegistry}) || !registry.Same(x, api.Registry{}) {
			t.Errorf("at %d: %+v", now, reply)
		}
	}
	r.Seq = last
	if _, reply := registry.Apply(r, api.Governor, api.Command{Verb: api.List}, 0); reply != (api.Reply{Err: api.ErrRegistry}) {
		t.Errorf("%+v", reply)
	}
	r.Seq = last - 1
	if x, reply := registry.Apply(r, api.Viewer, api.Command{Verb: api.List, Name: "?", Want: 99}, last); reply != (api.Reply{Seq: last}) || x.Seq != last {
		t.Errorf("%+v", reply)
	}
}

// P15.2: each command, in each state of its tenant: the reply and the tenant then.
func TestP15_2Commands(t *testing.T) {
	r := sample(t)
	sus, act, dra := find(t, r, "sus"), find(t, r, "act"), find(t, r, "dra")
	for _, c := range []struct {
		c        api.Command
		e        api.Errno
		version  int
		state    int
		deadline int
	}{
		{api.Command{Verb: api.Suspend, Name: "act"}, 0, 3, api.Suspended, 0}, {api.Command{Verb: api.Suspend, Name: "sus"}, api.ErrState, 2, api.Suspended, 0}, {api.Command{Verb: api.Suspend, Name: "dra"}, 0, 3, api.Suspended, 0},
		{api.Command{Verb: api.Resume, Name: "act"}, api.ErrState, 2, api.Active, 0}, {api.Command{Verb: api.Resume, Name: "sus"}, 0, 3, api.Active, 0}, {api.Command{Verb: api.Resume, Name: "dra"}, api.ErrState, 2, api.Draining, 60},
		{api.Command{Verb: api.Drain, Name: "act", N: 30}, 0, 3, api.Draining, 50}, {api.Command{Verb: api.Drain, Name: "act", N: 1}, 0, 3, api.Draining, 21}, {api.Command{Verb: api.Drain, Name: "act", N: 0}, api.ErrArg, 2, api.Active, 0}, {api.Command{Verb: api.Drain, Name: "act", N: 1000000000}, 0, 3, api.Draining, 1000000020},
		{api.Command{Verb: api.Drain, Name: "act", N: 1000000001}, api.ErrArg, 2, api.Active, 0}, {api.Command{Verb: api.Drain, Name: "act", N: -1}, api.ErrArg, 2, api.Active, 0}, {api.Command{Verb: api.Drain, Name: "act", N: math.MaxInt}, api.ErrArg, 2, api.Active, 0},
		{api.Command{Verb: api.Drain, Name: "sus", N: 0}, api.ErrState, 2, api.Suspended, 0}, {api.Command{Verb: api.Drain, Name: "dra", N: 7}, api.ErrState, 2, api.Draining, 60},
		{api.Command{Verb: api.Kill, Name: "dra", Want: 2}, 0, 2, api.Draining, 60}, {api.Command{Verb: api.Show, Name: "sus"}, 0, 2, api.Suspended, 0}, {api.Command{Verb: api.Kill, Name: "act", Want: 1}, api.ErrVersion, 2, api.Active, 0},
		{api.Command{Verb: api.Rotate, Name: "dra", Key: "n", N: 5, M: 9}, 0, 3, api.Draining, 60}, {api.Command{Verb: api.Acl, Name: "dra", Rule: rule}, 0, 3, api.Draining, 60},
		{api.Command{Verb: api.Show, Name: "none"}, api.ErrNone, 0, 0, 0}, {api.Command{Verb: api.Delete, Name: ""}, api.ErrNone, 0, 0, 0}, {api.Command{Verb: api.Suspend, Name: "none", Want: 5}, api.ErrNone, 0, 0, 0},
		{api.Command{Verb: api.Suspend, Name: "sus", Want: 1}, api.ErrVersion, 2, api.Suspended, 0}, {api.Command{Verb: api.Suspend, Name: "act", Want: 2}, 0, 3, api.Suspended, 0}, {api.Command{Verb: api.Resume, Name: "sus", Want: -2}, api.ErrVersion, 2, api.Suspended, 0},
	} {
		before := clone(r)
		x, reply := registry.Apply(r, api.Governor, c.c, 20)
		want := api.Reply{Err: c.e, Seq: r.Seq + 1}
		if c.e == api.OK {
			want.Handle, want.Version, want.State = find(t, r, c.c.Name).Handle, c.version, c.state
		}
		if reply != want || x.Seq != r.Seq+1 || !registry.Right(x) || !registry.Same(r, before) {
			t.Errorf("%+v: %+v", c.c, reply)
		}
		if y, ok := registry.Find(x, c.c.Name); ok && (y.Version != c.version || y.State != c.state || y.Deadline != c.deadline) {
			t.Errorf("%+v: %+v", c.c, y)
		}
		if c.e != api.OK || c.version == 2 {
			before.Seq++
			if !registry.Same(x, before) {
				t.Errorf("%+v: something is changed", c.c)
			}
		}
	}
	if sus.Handle.Slot != 1 || act.Handle.Slot != 0 || dra.Handle.Slot != 2 {
		t.Error("handles")
	}
	if _, reply := registry.Apply(r, api.Governor, api.Command{Verb: api.Drain, Name: "act", N: 5}, last-4); reply.Err != api.ErrArg {
		t.Errorf("%+v", reply)
	}
	if x, reply := registry.Apply(r, api.Governor, api.Command{Verb: api.Drain, Name: "act", N: 5}, last-5); reply.Err != api.OK || find(t, x, "act").Deadline != last {
		t.Errorf("%+v", reply)
	}
}

// P15.2: tenants are created in the slots' order, and the first error is told.
func TestP15_2Create(t *testing.T) {
	r := made(t, 3, "a", "b")
	x, reply := registry.Apply(r, api.Governor, api.Command{Verb: api.Create, Name: "c", Key: "key", N: 7, Want: 9, At: 5, Rule: wrong, M: 4}, 30)
	if reply != (api.Reply{Seq: 3, Handle: api.Handle{Slot: 2, Gen: 1}, Version: 1, State: api.Active}) {
		t.Errorf("%+v", reply)
	}
	if y := find(t, x, "c"); y.Version != 1 || y.State != api.Active || y.Deadline != 0 || len(y.Rules) != 0 || !slices.Equal(y.Creds, []api.Cred{{Id: 1, Key: "key", From: 30, To: 37}}) {
		t.Errorf("%+v", y)
	}
	x = done(t, x, api.Command{Verb: api.Delete, Name: "a"}, 30)
	x = done(t, x, api.Command{Verb: api.Delete, Name: "b"}, 30)
	x = done(t, x, creating("d"), 30)
	if l := registry.Names(x); !slices.Equal(l, []string{"d", "c"}) || find(t, x, "d").Handle != (api.Handle{Slot: 1, Gen: 2}) || !registry.Right(x) {
		t.Error(l)
	}
	full := made(t, 2, "a", "b")
	old := made(t, 2, "a")
	old.Slots.Gens[1] = api.MaxGen
	for _, c := range []struct {
		r    api.Registry
		c    api.Command
		now  int
		e    api.Errno
		role int
	}{
		{full, api.Command{Verb: api.Create}, 0, api.ErrName, 3}, {full, api.Command{Verb: api.Create, Name: strings.Repeat("n", 41)}, 0, api.ErrName, 3}, {full, api.Command{Verb: api.Create, Name: "é"}, 0, api.ErrName, 3},
		{full, api.Command{Verb: api.Create, Name: "b"}, 0, api.ErrExists, 3}, {full, api.Command{Verb: api.Create, Name: "c"}, 0, api.ErrFull, 3}, {old, creating("c"), 0, api.ErrFull, 3},
		{r, api.Command{Verb: api.Create, Name: "c", N: 0}, 0, api.ErrKey, 3}, {r, api.Command{Verb: api.Create, Name: "c", Key: "k", N: 0}, 0, api.ErrArg, 3}, {r, api.Command{Verb: api.Create, Name: "c", Key: "k", N: 1000000001}, 0, api.ErrArg, 3},
		{r, api.Command{Verb: api.Create, Name: "c", Key: "k", N: 5}, last - 4, api.ErrArg, 3}, {r, api.Command{Verb: api.Create}, 0, api.ErrDenied, api.Keeper}, {r, creating("c"), 0, api.ErrDenied, api.Viewer}, {r, creating("c"), 0, api.ErrDenied, 4},
	} {
		before := clone(c.r)
		before.Seq++
		x, reply := registry.Apply(c.r, c.role, c.c, c.now)
		if reply != (api.Reply{Err: c.e, Seq: before.Seq}) || !registry.Same(x, before) {
			t.Errorf("%+v: %+v", c.c, reply)
		}
	}
	if _, reply := registry.Apply(r, api.Governor, creating(strings.Repeat("n", 40)), 0); reply.Err != api.OK {
		t.Errorf("%+v", reply)
	}
}

// P15.2: what is deleted is not there any more, and its handle is given back.
func TestP15_2Delete(t *testing.T) {
	r := sample(t)
	for _, name := range []string{"act", "sus", "dra"} {
		was := find(t, r, name)
		x, reply := registry.Apply(r, api.Governor, api.Command{Verb: api.Delete, Name: name, Want: 2}, 0)
		if reply != (api.Reply{Seq: r.Seq + 1, Handle: was.Handle, Version: 3, State: was.State}) {
			t.Errorf("%s: %+v", name, reply)
		}
		if _, ok := registry.Find(x, name); ok || slots.Valid(x.Slots, was.Handle) || len(x.L) != 2 || !registry.Right(x) || x.Slots.Free[len(x.Slots.Free)-1] != was.Handle.Slot {
			t.Errorf("%s: %+v", name, x)
		}
		if y := find(t, done(t, x, creating(name), 0), name); y.Handle != (api.Handle{Slot: was.Handle.Slot, Gen: 2}) || y.Version != 1 || len(y.Rules) != 0 {
			t.Errorf("%s: %+v", name, y)
		}
	}
}

// P15.2: credentials are rotated as layer 11 does it.
func TestP15_2Rotate(t *testing.T) {
	r := sample(t)
	l, _, _ := cred.Rotate(find(t, r, "act").Creds, "new", 50, 10, 30)
	x := done(t, r, api.Command{Verb: api.Rotate, Name: "act", Key: "new", N: 10, M: 30}, 50)
	if y := find(t, x, "act"); !slices.Equal(y.Creds, l) || y.Version != 3 || len(l) != 2 {
		t.Errorf("%+v", y)
	}
	for _, c := range []struct {
		c api.Command
		e api.Errno
	}{
		{api.Command{Key: "", N: -1}, api.ErrKey}, {api.Command{Key: "n", N: -1, M: 5}, api.ErrArg}, {api.Command{Key: "n", N: 5, M: 0}, api.ErrArg}, {api.Command{Key: "n", M: 1000000001}, api.ErrArg},
	} {
		c.c.Verb, c.c.Name = api.Rotate, "act"
		if _, reply := registry.Apply(r, api.Governor, c.c, 50); reply != (api.Reply{Err: c.e, Seq: r.Seq + 1}) {
			t.Errorf("%+v: %+v", c.c, reply)
		}
	}
	for i := range 3 {
		r = done(t, r, api.Command{Verb: api.Rotate, Name: "act", Key: "n", N: 90, M: 90}, i)
	}
	if _, reply := registry.Apply(r, api.Governor, api.Command{Verb: api.Rotate, Name: "act", Key: "n", N: 90, M: 90}, 5); reply.Err != api.ErrFull {
		t.Errorf("%+v", reply)
	}
}

// P15.2: rules are put in and taken away as layer 8 does it.
func TestP15_2Acl(t *testing.T) {
	r := sample(t)
	for _, c := range []struct {
		at   int
		rule api.Rule
		e    api.Errno
		want []api.Rule
	}{
		{0, other, 0, []api.Rule{other, rule}}, {1, other, 0, []api.Rule{rule, other}}, {-1, wrong, 0, nil}, {2, other, api.ErrPlace, nil}, {-2, other, api.ErrPlace, nil}, {0, wrong, api.ErrRule, nil}, {2, wrong, api.ErrRule, nil},
		{math.MinInt, rule, api.ErrPlace, nil}, {math.MaxInt, rule, api.ErrPlace, nil},
	} {
		x, reply := registry.Apply(r, api.Governor, api.Command{Verb: api.Acl, Name: "act", At: c.at, Rule: c.rule}, 0)
		if reply.Err != c.e {
			t.Errorf("at %d: %+v", c.at, reply)
		}
		if y := find(t, x, "act"); c.e == api.OK && (!slices.Equal(y.Rules, c.want) || y.Version != 3) || c.e != api.OK && y.Version != 2 {
			t.Errorf("at %d: %+v", c.at, y)
		}
	}
	x := done(t, r, api.Command{Verb: api.Acl, Name: "act", At: 1, Rule: other}, 0)
	if y := find(t, done(t, x, api.Command{Verb: api.Acl, Name: "act", At: -2}, 0), "act"); !slices.Equal(y.Rules, []api.Rule{rule}) {
		t.Errorf("%+v", y)
	}
	if !acl.Right(find(t, x, "act").Rules) {
		t.Error("rules")
	}
}

// P15.2: who may not is told that first; roles and verbs that are none may nothing.
func TestP15_2Denied(t *testing.T) {
	r := sample(t)
	may := map[int][]int{api.Viewer: {api.List, api.Show}, api.Keeper: {api.Suspend, api.Resume, api.Drain, api.Kill, api.List, api.Show}, api.Governor: {1, 2, 3, 4, 5, 6, 7, 8, 9, 10}}
	for _, role := range []int{-1, 0, 1, 2, 3, 4, math.MaxInt} {
		for _, verb := range []int{-1, 0, 1, 2, 3, 4, 5, 6, 7, 8, 9, 10, 11, math.MinInt} {
			_, reply := registry.Apply(r, role, api.Command{Verb: verb, Name: "none", Want: 77}, 0)
			if denied := reply == (api.Reply{Err: api.ErrDenied, Seq: r.Seq + 1}); denied == slices.Contains(may[role], verb) {
				t.Errorf("%d %d: %+v", role, verb, reply)
			}
		}
	}
}

// P15.3: drains end at their deadlines.
func TestP15_3(t *testing.T) {
	r := made(t, 4, "a", "b", "c", "d")
	for i, name := range []string{"d", "a", "b"} {
		r = done(t, r, api.Command{Verb: api.Drain, Name: name, N: 10 * (1 + i)}, 0)
	}
	before := clone(r)
	for _, now := range []int{math.MinInt, -1, 0, 9} {
		if x := registry.Tick(r, now); !registry.Same(x, r) {
			t.Errorf("at %d: %+v", now, x)
		}
	}
	for now, want := range map[int][]string{10: {"d"}, 19: {"d"}, 20: {"a", "d"}, 30: {"a", "b", "d"}, math.MaxInt: {"a", "b", "d"}} {
		x := registry.Tick(r, now)
		var ended []string
		for _, y := range x.L {
			was := find(t, r, y.Name)
			if y.State == api.Suspended {
				ended = append(ended, y.Name)
				if y.Version != was.Version+1 || y.Deadline != 0 || y.Handle != was.Handle || !slices.Equal(y.Creds, was.Creds) {
					t.Errorf("at %d: %+v", now, y)
				}
			} else if y.Version != was.Version || y.State != was.State || y.Deadline != was.Deadline {
				t.Errorf("at %d: %+v", now, y)
			}
		}
		if !slices.Equal(ended, want) || x.Seq != r.Seq+len(want) || !registry.Right(x) || !registry.Same(registry.Tick(x, now), x) {
			t.Errorf("at %d: %v", now, ended)
		}
	}
	if !registry.Same(r, before) {
		t.Error("what was handed in is changed")
	}
	r.Seq = last - 1
	x := registry.Tick(r, 99)
	if x.Seq != last || x.L[0].State != api.Suspended || x.L[1].State != api.Draining || x.L[3].State != api.Draining || !registry.Right(x) {
		t.Errorf("%+v", x)
	}
}

// P15.4: what is right stays right; a command touches its own tenant alone, an error none.
func TestP15_4(t *testing.T) {
	r := rand.New(rand.NewSource(15))
	for range 60 {
		g, _ := registry.New(1 + r.Intn(4))
		for now := range 120 {
			c := api.Command{Verb: 1 + r.Intn(10), Name: "t" + strconv.Itoa(r.Intn(5)), Want: r.Intn(3), At: r.Intn(4) - 2, Key: "k", N: r.Intn(20), M: 1 + r.Intn(20), Rule: rule}
			if r.Intn(2) == 0 {
				c.Want = 0
			}
			before := clone(g)
			x, reply := registry.Apply(g, 1+r.Intn(3), c, now)
			if !registry.Right(x) || !registry.Same(g, before) || reply.Seq != g.Seq+1 || x.Seq != reply.Seq {
				t.Fatalf("%+v: %+v", c, reply)
			}
			before.Seq++
			if reply.Err != api.OK && !registry.Same(x, before) {
				t.Fatalf("%+v: %+v changes something", c, reply)
			}
			rest := func(g api.Registry) api.Registry {
				g.L = slices.DeleteFunc(slices.Clone(g.L), func(t api.Tenant) bool { return t.Name == c.Name })
				g.Slots = api.Slots{}
				return g
			}
			if !registry.Same(rest(x), rest(before)) {
				t.Fatalf("%+v touches others", c)
			}
			for i := range x.L {
				x.L[i].Rules = append(x.L[i].Rules, other)[:len(x.L[i].Rules)]
			}
			g = registry.Tick(x, now)
			if !registry.Right(g) || slices.ContainsFunc(g.L, func(t api.Tenant) bool { return t.State == api.Draining && t.Deadline <= now }) {
				t.Fatalf("%+v", g)
			}
		}
	}
}
