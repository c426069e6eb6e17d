package control_test

import (
	"math"
	"math/rand"
	"slices"
	"strconv"
	"strings"
	"testing"

	"wicketgate/acl"
	"wicketgate/api"
	"wicketgate/control"
	"wicketgate/registry"
	"wicketgate/snaps"
)

const last = api.MaxTick

var operators = []api.Operator{{Name: "ann", Role: api.Governor}, {Name: "kim", Role: api.Keeper}, {Name: "vic", Role: api.Viewer}}

func made(t *testing.T) api.Control {
	t.Helper()
	c, e := control.New(operators, 4)
	if e != api.OK || !control.Right(c) {
		t.Fatal(e)
	}
	return c
}

func clone(c api.Control) api.Control {
	c.Operators, c.Jobs, c.Done = slices.Clone(c.Operators), slices.Clone(c.Jobs), slices.Clone(c.Done)
	c.Registry = registry.Tick(c.Registry, -1)
	c.Pool.L = slices.Clone(c.Pool.L)
	for i := range c.Pool.L {
		c.Pool.L[i].Items = slices.Clone(c.Pool.L[i].Items)
	}
	return c
}

func call(t *testing.T, c api.Control, conn int, line string) api.Control {
	t.Helper()
	x, e := control.Call(c, conn, line)
	if e != api.OK {
		t.Fatal(line, e)
	}
	return x
}

func step(t *testing.T, c api.Control, conn, now, left int) (api.Control, api.Effect) {
	t.Helper()
	before := clone(c)
	x, f, e := control.Step(c, conn, now, left)
	if e != api.OK || !control.Right(x) || !control.Same(c, before) {
		t.Fatalf("%+v: %+v %d", c.Jobs, f, e)
	}
	return x, f
}

// say is a line's reply, by as many steps as it takes, without tunnels.
func say(t *testing.T, c api.Control, now int, line string) (api.Control, string) {
	t.Helper()
	c = call(t, c, 0, line)
	for range 5 {
		x, f := step(t, c, 0, now, 0)
		c = x
		if f.Kind == api.EffectReply {
			return c, f.Text
		}
		if f != (api.Effect{}) {
			t.Fatalf("%s: %+v", line, f)
		}
	}
	t.Fatalf("%s: no reply", line)
	return c, ""
}

type exchange struct {
	now  int
	line string
	want string
}

func talk(t *testing.T, c api.Control, l []exchange) api.Control {
	t.Helper()
	for _, x := range l {
		d, reply := say(t, c, x.now, x.line)
		if reply != x.want {
			t.Errorf("%s: %s, not %s", x.line, reply, x.want)
		}
		c = d
	}
	return c
}

// P19.1: new control.
func TestP19_1New(t *testing.T) {
	c := made(t)
	r, _ := registry.New(4)
	if !slices.Equal(c.Operators, operators) || !registry.Same(c.Registry, r) || !snaps.Same(c.Pool, snaps.New()) || len(c.Jobs)+len(c.Done) != 0 {
		t.Errorf("%+v", c)
	}
	c.Operators[0].Name = "x"
	if operators[0].Name != "ann" {
		t.Error("memory is shared")
	}
	if c, e := control.New(nil, 64); e != api.OK || !control.Right(c) {
		t.Error(e)
	}
	for _, x := range []struct {
		l []api.Operator
		n int
		e api.Errno
	}{{[]api.Operator{{}}, 0, api.ErrControl}, {slices.Repeat(operators, 2), 4, api.ErrControl}, {operators, 0, api.ErrArg}, {operators, 65, api.ErrArg}} {
		if c, e := control.New(x.l, x.n); e != x.e || !control.Same(c, api.Control{}) {
			t.Errorf("%+v: %+v %d", x, c, e)
		}
	}
}

// breaks are what makes right control wrong.
var breaks = map[string]func(*api.Control){
	"operators":     func(c *api.Control) { c.Operators[0].Role = 9 },
	"registry":      func(c *api.Control) { c.Registry.Seq = -1 },
	"pool":          func(c *api.Control) { c.Pool.Next = 0 },
	"five jobs":     func(c *api.Control) { c.Jobs = slices.Repeat(c.Jobs[:1], 5) },
	"same conn":     func(c *api.Control) { c.Jobs[1].Conn = c.Jobs[0].Conn },
	"conn below":    func(c *api.Control) { c.Jobs[1].Conn = -1 },
	"conn above":    func(c *api.Control) { c.Jobs[1].Conn = 4 },
	"phase below":   func(c *api.Control) { c.Jobs[1].Phase = 0 },
	"phase above":   func(c *api.Control) { c.Jobs[0].Phase = 6 },
	"id below":      func(c *api.Control) { c.Jobs[0].Req.Id = -1 },
	"id above":      func(c *api.Control) { c.Jobs[1].Req.Id = 1000001 },
	"nine answered": func(c *api.Control) { c.Done = make([]api.Answered, 9) },
}

func sample(t *testing.T) api.Control {
	c := talk(t, made(t), []exchange{{0, "ann 1 create acme k 100", "ok 1 1 0 1 1 1"}, {0, "ann 2 list 1", "ok 2 2 1 end acme"}, {0, "ann 9 drain acme 0 5", "ok 9 3 0 1 2 3"}})
	return call(t, call(t, c, 3, "x"), 1, "ann 3 list 3")
}

// P19.1, P19.2, P19.3: control that is right, and what is done with other control.
func TestP19_1Right(t *testing.T) {
	c := sample(t)
	for _, change := range []func(*api.Control){
		func(c *api.Control) { c.Done = make([]api.Answered, 8) }, func(c *api.Control) { c.Jobs[0].Req.Id = 1000000 }, func(c *api.Control) { c.Jobs[0].Phase = 5 }, func(c *api.Control) { c.Jobs[0].Conn = 0 }, func(c *api.Control) { c.Jobs[0].Role = -7 },
	} {
		x := clone(c)
		change(&x)
		if !control.Right(x) {
			t.Errorf("%+v is wrong", x)
		}
	}
	for name, change := range breaks {
		x := clone(c)
		change(&x)
		if control.Right(x) {
			t.Errorf("%s: right", name)
		}
		if y, e := control.Call(x, 9, "a"); e != api.ErrControl || !control.Same(y, api.Control{}) {
			t.Errorf("%s: %d", name, e)
		}
		if y, f, e := control.Step(x, 9, -1, -1); e != api.ErrControl || f != (api.Effect{}) || !control.Same(y, api.Control{}) {
			t.Errorf("%s: %d", name, e)
		}
		if y, l := control.Tick(x, last); !control.Same(y, x) || l != nil {
			t.Errorf("%s: %v", name, l)
		}
		if control.Same(x, c) || control.Same(c, x) || !control.Same(x, clone(x)) {
			t.Errorf("%s: the same", name)
		}
	}
	if y := clone(c); !control.Same(y, c) || !control.Same(api.Control{Jobs: []api.Job{}, Done: []api.Answered{}}, api.Control{}) {
		t.Error("the same are not")
	}
	if y := clone(c); y.Done[0].Text == "" {
		t.Error("no text")
	} else if y.Done[0].Text = "x"; control.Same(y, c) {
		t.Error("another text is the same")
	}
}

// P19.1: a connection's job.
func TestP19_1Find(t *testing.T) {
	c := sample(t)
	if j, ok := control.Find(c, 1); !ok || j != (api.Job{Conn: 1, Phase: api.Parsing, Line: "ann 3 list 3"}) {
		t.Errorf("%+v", j)
	}
	for _, conn := range []int{0, 2, 4, -1, math.MinInt} {
		if j, ok := control.Find(c, conn); ok || j != (api.Job{}) {
			t.Errorf("%d: %+v", conn, j)
		}
	}
	c.Jobs = []api.Job{{Conn: 9, Line: "a"}, {Conn: 9, Line: "b"}}
	if j, ok := control.Find(c, 9); !ok || j.Line != "a" {
		t.Errorf("%+v", j)
	}
}

// P19.1: lines that ask.
func TestP19_1Parse(t *testing.T) {
	rule, _ := acl.Parse("deny 10.0.0.0/8 22-23")
	of := func(c api.Command) api.Request { return api.Request{Who: "ann", Id: 7, Command: c} }
	list := func(count, cursor, from int) api.Request {
		return api.Request{Who: "ann", Id: 7, Command: api.Command{Verb: api.List}, Count: count, Cursor: cursor, From: from}
	}
	for line, want := range map[string]api.Request{
		"create acme k 100":           of(api.Command{Verb: api.Create, Name: "acme", Key: "k", N: 100}),
		`create "a b" "" 0`:           of(api.Command{Verb: api.Create, Name: "a b"}),
		"create acme k 1000000000000": of(api.Command{Verb: api.Create, Name: "acme", Key: "k", N: last}),
		"suspend acme 0":              of(api.Command{Verb: api.Suspend, Name: "acme"}),
		"resume acme 5":               of(api.Command{Verb: api.Resume, Name: "acme", Want: 5}),
		"delete acme 1000000000000":   of(api.Command{Verb: api.Delete, Name: "acme", Want: last}),
		"kill acme 1":                 of(api.Command{Verb: api.Kill, Name: "acme", Want: 1}),
		`show "" 1`:                   of(api.Command{Verb: api.Show, Want: 1}),
		"drain acme 2 30":             of(api.Command{Verb: api.Drain, Name: "acme", Want: 2, N: 30}),
		"rotate acme 2 k 30 40":       of(api.Command{Verb: api.Rotate, Name: "acme", Want: 2, Key: "k", N: 30, M: 40}),
		`acl acme 2 insert 3 "deny 10.0.0.0/8 22-23"`: of(api.Command{Verb: api.Acl, Name: "acme", Want: 2, At: 3, Rule: rule}),
		"rotate acme 0 k 0 0":                         of(api.Command{Verb: api.Rotate, Name: "acme", Key: "k"}),
		"acl acme 2 remove 0":                         of(api.Command{Verb: api.Acl, Name: "acme", Want: 2, At: -1}),
		"acl acme 2 remove 5":                         of(api.Command{Verb: api.Acl, Name: "acme", Want: 2, At: -6}),
		"acl acme 2 remove 1000000000000":             of(api.Command{Verb: api.Acl, Name: "acme", Want: 2, At: -last - 1}),
		"list 1":                                      list(1, 0, 0),
		"list 3 1 0":                                  list(3, 1, 0),
		"list 2 1000000000000 9":                      list(2, last, 9),
		`  acl acme 0 insert 1000000000000 "allow 0.0.0.0/0 *"  `: of(api.Command{Verb: api.Acl, Name: "acme", At: last, Rule: api.Rule{Allow: true, Ports: api.Ports{To: 65535}}}),
	} {
		if r, e := control.Parse("ann 7 " + line); e != api.OK || r != want {
			t.Errorf("%s: %+v %d", line, r, e)
		}
	}
	if r, e := control.Parse(`"b \"c" 1000000 list 1`); e != api.OK || r.Who != `b "c` || r.Id != 1000000 {
		t.Errorf("%+v %d", r, e)
	}
	for line, want := range map[string]api.Errno{strings.Repeat("a", 301): api.ErrLine, "ann\n": api.ErrByte, `ann "`: api.ErrQuote, `ann \`: api.ErrEscape, strings.Repeat("w", 65): api.ErrWord, strings.Repeat("a ", 13): api.ErrWords} {
		if r, e := control.Parse(line); e != want || r != (api.Request{}) {
			t.Errorf("%s: %+v %d", line, r, e)
		}
	}
}

// P19.1: lines that do not ask.
func TestP19_1Syntax(t *testing.T) {
	for _, line := range []string{
		"", "   ", "ann", "ann 1", "ann x list 1", "ann 0 list 1", "ann 01 list 1", "ann 1000001 list 1", "ann -1 list 1", "ann +1 list 1", `ann "" list 1`, "ann 1 List 1", "ann 1 stop acme 0", "ann 1 10 acme 0", `ann 1 "" acme 0`, "list 1", "ann list 1",
		"ann 1 create acme k", "ann 1 create acme k 1 1", "ann 1 create acme k 01", "ann 1 create acme k x", "ann 1 create acme k 1000000000001", "ann 1 create acme k -1", `ann 1 create acme k ""`, "ann 1 create",
		"ann 1 suspend acme", "ann 1 suspend acme 0 0", "ann 1 suspend acme x", "ann 1 resume acme", "ann 1 delete acme 00", "ann 1 kill acme", "ann 1 show acme", "ann 1 show", "ann 1 show acme 1 2", "ann 1 show acme 99999999999999999999",
		"ann 1 drain acme 0", "ann 1 drain acme 0 1 2", "ann 1 drain acme x 1", "ann 1 drain acme 0 x", "ann 1 rotate acme 0 k 1", "ann 1 rotate acme 0 k 1 2 3", "ann 1 rotate acme 0 k x 2", "ann 1 rotate acme 0 k 1 x", "ann 1 rotate acme k 1 2",
		"ann 1 acl acme 0", "ann 1 acl acme 0 insert", "ann 1 acl acme 0 insert 0", `ann 1 acl acme 0 insert x "allow 0.0.0.0/0 *"`, "ann 1 acl acme 0 insert 0 allow 0.0.0.0/0 *", `ann 1 acl acme 0 insert 0 "allow 0.0.0.0/0"`, `ann 1 acl acme 0 insert 0 "allow 0.0.0.0/0 *" x`, `ann 1 acl acme 0 insert -1 "allow 0.0.0.0/0 *"`,
		"ann 1 acl acme 0 remove", "ann 1 acl acme 0 remove x", "ann 1 acl acme 0 remove 0 0", `ann 1 acl acme 0 remove 0 "allow 0.0.0.0/0 *"`, "ann 1 acl acme 0 replace 0", `ann 1 acl acme insert 0 "allow 0.0.0.0/0 *"`,
		"ann 1 list", "ann 1 list 0", "ann 1 list 4", "ann 1 list x", "ann 1 list 1 1", "ann 1 list 1 0 0", "ann 1 list 1 1 x", "ann 1 list 1 1 0 0", "ann 1 list 01",
	} {
		if r, e := control.Parse(line); e != api.ErrSyntax || r != (api.Request{}) {
			t.Errorf("%s: %+v %d", line, r, e)
		}
	}
}

// P19.2: jobs begin.
func TestP19_2Call(t *testing.T) {
	c := made(t)
	for i, conn := range []int{2, 0, 3, 1} {
		before := clone(c)
		line := strings.Repeat("\xff", 100*i)
		x, e := control.Call(c, conn, line)
		if e != api.OK || !control.Same(c, before) || x.Jobs[i] != (api.Job{Conn: conn, Phase: api.Parsing, Line: line}) || len(x.Jobs) != i+1 {
			t.Errorf("%d: %+v %d", conn, x.Jobs, e)
		}
		if y, e := control.Call(x, conn, "again"); e != api.ErrBusy || !control.Same(y, api.Control{}) {
			t.Errorf("%d: %d", conn, e)
		}
		c = x
	}
	for _, conn := range []int{-1, 4, math.MinInt, math.MaxInt} {
		if y, e := control.Call(c, conn, "a"); e != api.ErrArg || !control.Same(y, api.Control{}) {
			t.Errorf("%d: %d", conn, e)
		}
	}
	x := c
	x.Jobs = nil
	y := call(t, x, 0, "b")
	y.Operators[0].Name = "changed"
	if c.Operators[0].Name != "ann" {
		t.Error("memory is shared")
	}
}

// P19.2: what can't be stepped.
func TestP19_2StepErrors(t *testing.T) {
	c := sample(t)
	for _, x := range []struct {
		conn, now, left int
		e               api.Errno
	}{
		{1, -1, 0, api.ErrArg}, {1, last + 1, 0, api.ErrArg}, {1, 0, -1, api.ErrArg}, {0, -1, 0, api.ErrArg}, {0, 0, 0, api.ErrJob}, {4, 0, 0, api.ErrJob}, {-1, 0, 0, api.ErrJob}, {1, math.MinInt, math.MinInt, api.ErrArg},
	} {
		if y, f, e := control.Step(c, x.conn, x.now, x.left); e != x.e || f != (api.Effect{}) || !control.Same(y, api.Control{}) {
			t.Errorf("%+v: %d", x, e)
		}
	}
	if _, _, e := control.Step(c, 1, last, math.MaxInt); e != api.OK {
		t.Error(e)
	}
}

// job is the one of connection 0.
func job(t *testing.T, c api.Control) api.Job {
	t.Helper()
	j, ok := control.Find(c, 0)
	if !ok {
		t.Fatal("no job")
	}
	return j
}

// P19.2: a command, step by step.
func TestP19_2Steps(t *testing.T) {
	c := talk(t, made(t), []exchange{{5, "ann 1 create acme k 100", "ok 1 1 0 1 1 1"}})
	line := "kim 7 suspend acme 1"
	c = call(t, c, 0, line)
	req, _ := control.Parse(line)
	want := api.Job{Line: line, Phase: api.Asking, Req: req}
	c, f := step(t, c, 0, 9, 3)
	if job(t, c) != want || f != (api.Effect{}) {
		t.Errorf("%+v %+v", job(t, c), f)
	}
	want.Phase, want.Role = api.Committing, api.Keeper
	c, f = step(t, c, 0, 9, 3)
	if job(t, c) != want || f != (api.Effect{}) || c.Registry.Seq != 1 {
		t.Errorf("%+v %+v", job(t, c), f)
	}
	want.Phase, want.Reply, want.Handle = api.Sweeping, "ok 7 2 0 1 2 2", api.Handle{Gen: 1}
	c, f = step(t, c, 0, 9, 3)
	if job(t, c) != want || f != (api.Effect{}) || c.Registry.L[0].State != api.Suspended || c.Done[1] != (api.Answered{Who: "kim", Id: 7, Text: want.Reply}) {
		t.Errorf("%+v %+v", job(t, c), f)
	}
	for left := 3; left > 0; left-- {
		c, f = step(t, c, 0, 9, left)
		if job(t, c) != want || f != (api.Effect{Kind: api.EffectStop, Handle: want.Handle}) {
			t.Errorf("%+v %+v", job(t, c), f)
		}
	}
	want.Phase = api.Replying
	c, f = step(t, c, 0, 9, 0)
	if job(t, c) != want || f != (api.Effect{}) {
		t.Errorf("%+v %+v", job(t, c), f)
	}
	c, f = step(t, c, 0, 9, 5)
	if _, ok := control.Find(c, 0); ok || f != (api.Effect{Kind: api.EffectReply, Text: "ok 7 2 0 1 2 2"}) {
		t.Errorf("%+v", f)
	}
}

// P19.2: a line that does not ask, and somebody who is no operator.
func TestP19_2Refused(t *testing.T) {
	c := made(t)
	for _, line := range []string{"", "?", "\xff", strings.Repeat("a", 999), "ann 5 list"} {
		d := call(t, c, 0, line)
		d, f := step(t, d, 0, 0, 0)
		if job(t, d) != (api.Job{Phase: api.Replying, Line: line, Reply: "error 0 193"}) || f != (api.Effect{}) || len(d.Done) != 0 || d.Registry.Seq != 0 {
			t.Errorf("%q: %+v", line, job(t, d))
		}
	}
	d := call(t, c, 0, "bob 9 list 1")
	d, _ = step(t, d, 0, 0, 0)
	d, f := step(t, d, 0, 0, 0)
	req, _ := control.Parse("bob 9 list 1")
	if job(t, d) != (api.Job{Phase: api.Replying, Line: "bob 9 list 1", Req: req, Reply: "error 9 120"}) || f != (api.Effect{}) || len(d.Done) != 0 || d.Registry.Seq != 0 {
		t.Errorf("%+v", job(t, d))
	}
	d.Jobs[0].Phase, d.Jobs[0].Role = api.Asking, 3
	d, _ = step(t, d, 0, 0, 0)
	if job(t, d).Role != 0 {
		t.Error("the role stays")
	}
}

// P19.2: what is replied to each verb, and to errors.
func TestP19_2Replies(t *testing.T) {
	c := talk(t, made(t), []exchange{
		{0, "ann 1 create acme k 100", "ok 1 1 0 1 1 1"}, {0, "ann 2 create acme k 100", "error 2 153"}, {0, `ann 3 create "a \"b" k 100`, "ok 3 3 1 1 1 1"}, {0, "ann 4 create z k 0", "error 4 2"}, {0, `ann 5 create z "" 5`, "error 5 50"},
		{0, "ann 6 show acme 0", "ok 6 6 0 1 1 1"}, {0, `ann 7 show "a \"b" 1`, "ok 7 7 1 1 1 1"}, {0, "ann 8 show acme 2", "error 8 155"}, {0, "ann 9 show none 2", "error 9 154"},
		{0, "vic 1 suspend acme 0", "error 1 151"}, {0, "kim 1 suspend acme 1", "ok 1 11 0 1 2 2"}, {0, "kim 2 suspend acme 0", "error 2 156"}, {0, "kim 3 resume acme 2", "ok 3 13 0 1 3 1"}, {0, "kim 4 create q k 9", "error 4 151"},
		{20, "kim 5 drain acme 0 30", "ok 5 15 0 1 4 3"}, {20, "ann 10 rotate acme 4 n 5 50", "ok 10 16 0 1 5 3"}, {20, `ann 11 acl acme 5 insert 0 "allow 0.0.0.0/0 *"`, "ok 11 17 0 1 6 3"}, {20, `ann 12 acl acme 5 insert 9 "allow 0.0.0.0/0 *"`, "error 12 155"},
		{20, `ann 13 acl acme 6 insert 9 "allow 0.0.0.0/0 *"`, "error 13 82"}, {20, "ann 14 acl acme 6 remove 1", "error 14 82"}, {20, "ann 15 acl acme 6 remove 0", "ok 15 21 0 1 7 3"}, {20, "kim 6 kill acme 0", "ok 6 22 0 1 7 3"}, {20, "vic 2 kill acme 0", "error 2 151"},
		{20, "ann 16 delete acme 7", "ok 16 24 0 1 8 3"}, {20, "ann 17 delete acme 0", "error 17 154"}, {20, "ann 18 create new k 5", "ok 18 26 0 2 1 1"}, {20, "vic 3 list 3", `ok 3 27 1 end new "a \"b"`},
	})
	if c.Registry.Seq != 27 || len(c.Done) != 8 {
		t.Error(c.Registry.Seq, len(c.Done))
	}
	full := clone(c)
	full.Registry.Seq = last
	d, reply := say(t, full, 20, "vic 9 show new 0")
	if reply != "error 9 150" || !registry.Same(d.Registry, full.Registry) || d.Done[7] != (api.Answered{Who: "vic", Id: 9, Text: reply}) {
		t.Error(reply)
	}
}

// P19.2: listings, page by page, and the pool that stays as it was beside an error.
func TestP19_2List(t *testing.T) {
	c := talk(t, made(t), []exchange{
		{0, "ann 1 list 3", "ok 1 1 1 end"}, {0, "ann 2 create a k 9", "ok 2 2 0 1 1 1"}, {0, "ann 3 create b k 9", "ok 3 3 1 1 1 1"}, {0, "ann 4 create c k 9", "ok 4 4 2 1 1 1"},
		{5, "vic 1 list 2", "ok 1 5 2 2 a b"}, {5, "ann 5 delete c 0", "ok 5 6 2 1 2 1"}, {6, "vic 2 list 2 2 2", "ok 2 7 2 end c"}, {6, "vic 3 list 3 2 3", "ok 3 8 2 end"}, {6, "vic 4 list 3 2 1", "ok 4 9 2 end b c"},
		{6, "vic 5 list 1 2 4", "error 5 161"}, {6, "vic 6 list 1 9 0", "error 6 161"}, {6, "vic 7 list 1", "ok 7 12 3 1 a"}, {1005, "vic 8 list 1 2 0", "ok 8 13 2 1 a"}, {2005, "vic 9 list 1 2 0", "error 9 161"},
	})
	before := c.Pool
	if c.Pool.Next != 4 || len(c.Pool.L) != 3 || c.Pool.L[2].Used != 1005 {
		t.Errorf("%+v", c.Pool)
	}
	d, reply := say(t, c, 1004, "vic 10 list 1")
	if reply != "error 10 160" || !snaps.Same(d.Pool, before) || d.Registry.Seq != 15 {
		t.Error(reply)
	}
	// A job that is handed in may ask for what no line does.
	for _, x := range []struct {
		req  api.Request
		want string
	}{
		{api.Request{Who: "q", Id: 3, Command: api.Command{Verb: api.List}, Count: 0}, "error 3 2"}, {api.Request{Who: "q", Id: 3, Command: api.Command{Verb: api.List}, Count: 1, From: 9}, "error 3 161"}, {api.Request{Who: "q", Id: 3, Command: api.Command{Verb: api.List}, Count: 1, Cursor: -1}, "error 3 161"},
		{api.Request{Who: "q", Id: 3, Command: api.Command{Verb: api.List}, Count: 11}, "error 3 2"}, {api.Request{Who: "q", Id: 3, Command: api.Command{Verb: 99}}, "error 3 151"},
	} {
		d := clone(c)
		d.Jobs = []api.Job{{Phase: api.Committing, Req: x.req, Role: api.Viewer, Handle: api.Handle{Slot: 5}}}
		y, f := step(t, d, 0, 2000, 0)
		if job(t, y) != (api.Job{Phase: api.Replying, Req: x.req, Role: api.Viewer, Handle: api.Handle{Slot: 5}, Reply: x.want}) || f != (api.Effect{}) || !snaps.Same(y.Pool, before) || y.Registry.Seq != d.Registry.Seq+1 {
			t.Errorf("%+v: %+v", x.req, job(t, y))
		}
	}
}

// P19.2: a reply that is no line is empty, and noted so.
func TestP19_2Empty(t *testing.T) {
	c, e := control.New(operators, 64)
	if e != api.OK {
		t.Fatal(e)
	}
	for i := range 9 {
		c, _ = say(t, c, 0, "ann "+strconv.Itoa(i+1)+" create t"+strconv.Itoa(i)+" k 9")
	}
	c.Jobs = []api.Job{{Phase: api.Committing, Role: api.Viewer, Req: api.Request{Who: "q", Command: api.Command{Verb: api.List}, Count: 9}}}
	c, _ = step(t, c, 0, 0, 0)
	if j := job(t, c); j.Reply != "" || j.Phase != api.Replying || c.Done[7] != (api.Answered{Who: "q"}) || len(c.Pool.L) != 1 {
		t.Errorf("%+v", j)
	}
	if _, f := step(t, c, 0, 0, 0); f != (api.Effect{Kind: api.EffectReply}) {
		t.Errorf("%+v", f)
	}
}

// P19.3: drains end, and their handles are told.
func TestP19_3(t *testing.T) {
	c := talk(t, made(t), []exchange{
		{0, "ann 1 create a k 9", "ok 1 1 0 1 1 1"}, {0, "ann 2 create b k 9", "ok 2 2 1 1 1 1"}, {0, "ann 3 create c k 9", "ok 3 3 2 1 1 1"}, {0, "ann 4 create d k 9", "ok 4 4 3 1 1 1"},
		{0, "ann 5 drain d 0 10", "ok 5 5 3 1 2 3"}, {0, "ann 6 drain b 0 20", "ok 6 6 1 1 2 3"}, {0, "ann 7 suspend c 0", "ok 7 7 2 1 2 2"},
	})
	for now, want := range map[int][]api.Handle{math.MinInt: nil, 9: nil, 10: {{Slot: 3, Gen: 1}}, 20: {{Slot: 1, Gen: 1}, {Slot: 3, Gen: 1}}, math.MaxInt: {{Slot: 1, Gen: 1}, {Slot: 3, Gen: 1}}} {
		before := clone(c)
		d, l := control.Tick(c, now)
		if !slices.Equal(l, want) || !registry.Same(d.Registry, registry.Tick(c.Registry, now)) || !control.Same(c, before) {
			t.Errorf("at %d: %v", now, l)
		}
		d.Registry = c.Registry
		if !control.Same(d, c) {
			t.Errorf("at %d: more is changed", now)
		}
	}
}

// P19.4: whatever lies between the steps, the replies are those of one registry that does one command after the other; a number is done once.
func TestP19_4(t *testing.T) {
	r := rand.New(rand.NewSource(19))
	for range 60 {
		c := made(t)
		model, _ := registry.New(4)
		type sent struct{ line, reply string }
		var done []sent
		lines := map[int]string{}
		steps := map[int]int{}
		numbers := 0
		for range 400 {
			conn := r.Intn(4)
			if _, busy := control.Find(c, conn); !busy {
				numbers++
				name := "t" + strconv.Itoa(r.Intn(5))
				verb := []string{"create " + name + " k 9", "suspend " + name + " 0", "resume " + name + " 0", "delete " + name + " 0", "drain " + name + " 0 9", "show " + name + " 0", "kill " + name + " 0"}[r.Intn(7)]
				lines[conn] = []string{"ann", "kim", "vic"}[r.Intn(3)] + " " + strconv.Itoa(numbers) + " " + verb
				if len(done) > 0 && r.Intn(5) == 0 {
					lines[conn] = done[len(done)-1].line
				}
				c = call(t, c, conn, lines[conn])
				steps[conn] = 0
				continue
			}
			j, _ := control.Find(c, conn)
			seq := c.Registry.Seq
			x, f := step(t, c, conn, 5, 0)
			steps[conn]++
			if x.Registry.Seq != seq {
				if j.Phase != api.Committing || x.Registry.Seq != seq+1 {
					t.Fatal("a command is not done at once")
				}
				k, _ := control.Find(x, conn)
				var reply api.Reply
				model, reply = registry.Apply(model, j.Role, j.Req.Command, 5)
				want := "error " + strconv.Itoa(j.Req.Id) + " " + strconv.Itoa(int(reply.Err))
				if reply.Err == api.OK {
					want = "ok " + strings.Join([]string{strconv.Itoa(j.Req.Id), strconv.Itoa(reply.Seq), strconv.Itoa(reply.Handle.Slot), strconv.Itoa(reply.Handle.Gen), strconv.Itoa(reply.Version), strconv.Itoa(reply.State)}, " ")
				}
				if k.Reply != want || !registry.Same(model, x.Registry) {
					t.Fatal(j.Line, k.Reply, want)
				}
				done = append(done, sent{j.Line, k.Reply})
			} else if j.Phase == api.Committing {
				k, _ := control.Find(x, conn)
				if i := slices.IndexFunc(done, func(s sent) bool { return s.line == j.Line }); i < 0 || done[i].reply != k.Reply || k.Phase != api.Replying {
					t.Fatal(j.Line, k.Reply)
				}
			}
			if f.Kind == api.EffectReply && steps[conn] > 5 {
				t.Fatal(steps[conn])
			}
			c = x
		}
	}
}

// P19.4: just the last eight answers are kept.
func TestP19_4Done(t *testing.T) {
	c := made(t)
	for i := range 9 {
		c, _ = say(t, c, 0, "vic "+strconv.Itoa(i+1)+" show none 0")
	}
	if c.Registry.Seq != 9 || len(c.Done) != 8 || c.Done[0].Id != 2 {
		t.Fatal(c.Registry.Seq, c.Done)
	}
	c = talk(t, c, []exchange{{0, "vic 2 show none 0", "error 2 154"}, {0, "vic 9 create q k 9", "error 9 154"}, {0, "kim 9 show none 0", "error 9 154"}})
	if c.Registry.Seq != 10 {
		t.Error(c.Registry.Seq)
	}
	c, _ = say(t, c, 0, "vic 1 show none 0")
	if c.Registry.Seq != 11 {
		t.Error("a number that is forgotten is not done anew")
	}
	twice := clone(c)
	twice.Done = []api.Answered{{Who: "vic", Id: 5, Text: "first"}, {Who: "vic", Id: 5, Text: "second"}}
	if _, reply := say(t, twice, 0, "vic 5 show none 0"); reply != "first" {
		t.Error(reply)
	}
}
