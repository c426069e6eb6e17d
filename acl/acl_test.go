package acl_test

import (
	"math"
	"math/rand"
	"slices"
	"strings"
	"testing"

	"wicketgate/acl"
	"wicketgate/addr"
	"wicketgate/api"
	"wicketgate/ports"
)

func rule(t *testing.T, s string) api.Rule {
	t.Helper()
	r, e := acl.Parse(s)
	if e != api.OK {
		t.Fatalf("%s: %d", s, e)
	}
	return r
}

func target(t *testing.T, s string) api.Target {
	t.Helper()
	x, e := ports.ParseTarget(s)
	if e != api.OK {
		t.Fatalf("%s: %d", s, e)
	}
	return x
}

var (
	good   = api.Rule{Allow: true, Prefix: api.Prefix{Addr: 10 << 24, Bits: 8}, Ports: api.Ports{From: 80, To: 90}}
	wrongs = []api.Rule{
		{Prefix: api.Prefix{Addr: 1}}, {Prefix: api.Prefix{Bits: 33}}, {Ports: api.Ports{From: 1}}, {Ports: api.Ports{To: 65536}}, {Allow: true, Prefix: api.Prefix{Bits: -1}, Ports: api.Ports{From: -1}},
	}
	wrongTargets = []api.Target{{}, {Addr: 1}, {Addr: 10 << 24, Port: 65536}, {Addr: -1, Port: 80}, {Addr: api.MaxAddr + 1, Port: 80}, {Addr: math.MinInt, Port: math.MinInt}}
)

// P8.1: rules and their texts.
func TestP8_1Texts(t *testing.T) {
	for _, c := range []struct {
		r api.Rule
		s string
	}{
		{good, "allow 10.0.0.0/8 80-90"}, {api.Rule{}, "deny 0.0.0.0/0 0"}, {api.Rule{Allow: true, Ports: api.Ports{To: 65535}}, "allow 0.0.0.0/0 *"},
		{api.Rule{Prefix: api.Prefix{Addr: 10 << 24, Bits: 8}, Ports: api.Ports{From: 22, To: 22}}, "deny 10.0.0.0/8 22"},
	} {
		if s, e := acl.Print(c.r); s != c.s || e != api.OK {
			t.Errorf("Print(%v): %s %d", c.r, s, e)
		}
		if r, e := acl.Parse(c.s); r != c.r || e != api.OK {
			t.Errorf("Parse(%s): %v %d", c.s, r, e)
		}
	}
	for _, r := range wrongs {
		if s, e := acl.Print(r); s != "" || e != api.ErrRule {
			t.Errorf("Print(%v): %s %d", r, s, e)
		}
	}
	for _, s := range []string{
		"", "allow", "allow 10.0.0.0/8", "10.0.0.0/8 80", "allow 10.0.0.0/8 80 ", " allow 10.0.0.0/8 80", "allow  10.0.0.0/8 80", "allow 10.0.0.0/8  80", "Allow 10.0.0.0/8 80", "permit 10.0.0.0/8 80",
		"allow 10.0.0.1/8 80", "allow 10.0.0.0 80", "allow 10.0.0.0/8 80-80", "allow 10.0.0.0/8 0-65535", "allow 10.0.0.0/8 x", "allow 10.0.0.0/8 80 90", `"allow" 10.0.0.0/8 80`, `allow "10.0.0.0/8" 80`,
		"allow\t10.0.0.0/8\t80", "allow 10.0.0.0/8 80\n", strings.Repeat(" ", 400), " 10.0.0.0/8 80", "\xff 10.0.0.0/8 80",
	} {
		if r, e := acl.Parse(s); r != (api.Rule{}) || e != api.ErrRule {
			t.Errorf("Parse(%q): %v %d", s, r, e)
		}
	}
}

// P8.1: rules that are right, at most 16.
func TestP8_1Right(t *testing.T) {
	if !acl.Right(nil) || !acl.Right([]api.Rule{}) || !acl.Right([]api.Rule{good, {}}) || !acl.Right(slices.Repeat([]api.Rule{good}, 16)) || acl.Right(slices.Repeat([]api.Rule{good}, 17)) {
		t.Error("Right")
	}
	for _, w := range wrongs {
		for at := range 3 {
			if l := slices.Insert([]api.Rule{good, good}, at, w); acl.Right(l) {
				t.Errorf("Right(%v)", l)
			}
		}
	}
}

// P8.1: a rule fits a target by its prefix and its ports.
func TestP8_1Fits(t *testing.T) {
	for s, want := range map[string]bool{"10.0.0.0:80": true, "10.255.255.255:90": true, "10.1.2.3:85": true, "11.0.0.0:80": false, "9.255.255.255:80": false, "10.0.0.0:79": false, "10.0.0.0:91": false} {
		deny := good
		deny.Allow = false
		if acl.Fits(good, target(t, s)) != want || acl.Fits(deny, target(t, s)) != want {
			t.Errorf("Fits(%s)", s)
		}
	}
	every := rule(t, "allow 0.0.0.0/0 *")
	for _, w := range wrongTargets {
		if acl.Fits(every, w) {
			t.Errorf("Fits(%v)", w)
		}
	}
	for _, w := range append(slices.Clone(wrongs), api.Rule{Ports: api.Ports{From: 80, To: 70000}}, api.Rule{Prefix: api.Prefix{Addr: 10<<24 | 1, Bits: 8}, Ports: api.Ports{To: 65535}}) {
		if acl.Fits(w, target(t, "10.0.0.1:80")) || acl.Fits(w, target(t, "0.0.0.1:80")) {
			t.Errorf("Fits of %v", w)
		}
	}
}

// P8.2: the first rule that fits decides.
func TestP8_2Decide(t *testing.T) {
	l := []api.Rule{rule(t, "deny 10.0.0.0/8 22"), rule(t, "allow 10.0.0.0/8 *"), rule(t, "deny 10.0.0.0/8 80"), rule(t, "allow 12.0.0.0/8 22")}
	for _, c := range []struct {
		s    string
		pass bool
		at   int
	}{{"10.1.2.3:80", true, 1}, {"10.1.2.3:22", false, 0}, {"11.0.0.0:80", false, -1}, {"12.0.0.0:22", true, 3}, {"12.0.0.0:23", false, -1}} {
		if pass, at, e := acl.Decide(l, target(t, c.s)); pass != c.pass || at != c.at || e != api.OK {
			t.Errorf("%s: %t %d %d", c.s, pass, at, e)
		}
	}
	if pass, at, e := acl.Decide(nil, target(t, "1.2.3.4:5")); pass || at != -1 || e != api.OK {
		t.Error(pass, at, e)
	}
	for _, x := range wrongTargets {
		if pass, at, e := acl.Decide(l, x); pass || at != 0 || e != api.ErrTarget {
			t.Errorf("%v: %t %d %d", x, pass, at, e)
		}
	}
	for _, w := range [][]api.Rule{{good, wrongs[0]}, {wrongs[3], good}, slices.Repeat([]api.Rule{good}, 17)} {
		for _, x := range []api.Target{{}, target(t, "10.0.0.0:80")} {
			if pass, at, e := acl.Decide(w, x); pass || at != 0 || e != api.ErrRules {
				t.Errorf("%v: %t %d %d", w, pass, at, e)
			}
		}
	}
}

// P8.2: rules are put in, and taken away, in new memory.
func TestP8_2Change(t *testing.T) {
	a, b, c := rule(t, "allow 1.0.0.0/8 1"), rule(t, "allow 2.0.0.0/8 2"), rule(t, "deny 3.0.0.0/8 3")
	room := append(make([]api.Rule, 0, 8), a, b)
	for at, want := range [][]api.Rule{{c, a, b}, {a, c, b}, {a, b, c}} {
		l, e := acl.Insert(room, at, c)
		if e != api.OK || !slices.Equal(l, want) {
			t.Errorf("Insert at %d: %v %d", at, l, e)
		}
		l[0], l[1] = api.Rule{}, api.Rule{}
	}
	for at, want := range [][]api.Rule{{b}, {a}} {
		l, e := acl.Remove(room, at)
		if e != api.OK || !slices.Equal(l, want) {
			t.Errorf("Remove at %d: %v %d", at, l, e)
		}
		l = append(l, c)
		l[0] = c
	}
	if !slices.Equal(room, []api.Rule{a, b}) || room[:3][2] != (api.Rule{}) {
		t.Error("what was handed in is changed", room[:3])
	}
	if l, e := acl.Insert(nil, 0, a); e != api.OK || !slices.Equal(l, []api.Rule{a}) {
		t.Error(l, e)
	}
	if l, e := acl.Remove([]api.Rule{a}, 0); e != api.OK || len(l) != 0 {
		t.Error(l, e)
	}
	full, more := slices.Repeat([]api.Rule{a}, 16), slices.Repeat([]api.Rule{a}, 17)
	if l, e := acl.Insert(full[:15], 15, b); e != api.OK || len(l) != 16 || l[15] != b {
		t.Error(l, e)
	}
	for _, x := range []struct {
		l  []api.Rule
		at int
		r  api.Rule
		e  api.Errno
	}{
		{room, -1, c, api.ErrPlace}, {room, 3, c, api.ErrPlace}, {full, 0, c, api.ErrPlace}, {full, 16, c, api.ErrPlace}, {room, math.MinInt, c, api.ErrPlace}, {room, math.MaxInt, c, api.ErrPlace},
		{room, -1, wrongs[0], api.ErrRule}, {full, 0, wrongs[1], api.ErrRule}, {more, -1, wrongs[0], api.ErrRules}, {[]api.Rule{wrongs[2]}, 0, c, api.ErrRules},
	} {
		if l, e := acl.Insert(x.l, x.at, x.r); l != nil || e != x.e {
			t.Errorf("Insert(%v, %d, %v): %v %d", x.l, x.at, x.r, l, e)
		}
	}
	for _, x := range []struct {
		l  []api.Rule
		at int
		e  api.Errno
	}{{room, -1, api.ErrPlace}, {room, 2, api.ErrPlace}, {nil, 0, api.ErrPlace}, {room, math.MaxInt, api.ErrPlace}, {room, math.MinInt, api.ErrPlace}, {more, -1, api.ErrRules}, {[]api.Rule{wrongs[2]}, 5, api.ErrRules}} {
		if l, e := acl.Remove(x.l, x.at); l != nil || e != x.e {
			t.Errorf("Remove(%v, %d): %v %d", x.l, x.at, l, e)
		}
	}
}

// P8.3: what stands behind the first rule that fits makes no difference, what stands ahead just if it fits.
func TestP8_3(t *testing.T) {
	r := rand.New(rand.NewSource(8))
	some := func() api.Rule {
		p, _ := addr.Of(r.Intn(4)<<30, r.Intn(4))
		from := r.Intn(4)
		return api.Rule{Allow: r.Intn(2) == 0, Prefix: p, Ports: api.Ports{From: from, To: from + r.Intn(3)}}
	}
	for range 5000 {
		var l []api.Rule
		for range r.Intn(15) {
			l = append(l, some())
		}
		x := api.Target{Addr: r.Intn(4) << 30, Port: 1 + r.Intn(5)}
		pass, at, e := acl.Decide(l, x)
		first := slices.IndexFunc(l, func(r api.Rule) bool { return acl.Fits(r, x) })
		if e != api.OK || at != first || at < 0 && pass || at >= 0 && pass != l[at].Allow {
			t.Fatal(l, x, pass, at, e)
		}
		if at >= 0 {
			behind, _ := acl.Insert(l, at+1, some())
			if p, n, _ := acl.Decide(behind, x); p != pass || n != at {
				t.Fatal(l, x)
			}
		}
		a := some()
		ahead, _ := acl.Insert(l, 0, a)
		p, n, _ := acl.Decide(ahead, x)
		if acl.Fits(a, x) && (p != a.Allow || n != 0) || !acl.Fits(a, x) && (p != pass || at >= 0 && n != at+1 || at < 0 && n != -1) {
			t.Fatal(l, a, x, p, n)
		}
	}
}
