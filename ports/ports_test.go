package ports_test

import (
	"math"
	"math/rand"
	"strconv"
	"testing"

	"wicketgate/api"
	"wicketgate/ports"
)

var wrongPorts = []api.Ports{
	{From: -1}, {From: -1, To: -1}, {From: 2, To: 1}, {To: 65536}, {From: 65536, To: 65536}, {From: math.MinInt, To: math.MaxInt}, {From: math.MaxInt, To: math.MinInt},
}

// P7.1: ports and their texts.
func TestP7_1Texts(t *testing.T) {
	for _, c := range []struct {
		p api.Ports
		s string
	}{
		{api.Ports{To: 65535}, "*"}, {api.Ports{From: 80, To: 80}, "80"}, {api.Ports{From: 80, To: 90}, "80-90"}, {api.Ports{}, "0"}, {api.Ports{To: 1}, "0-1"},
		{api.Ports{From: 65535, To: 65535}, "65535"}, {api.Ports{From: 1, To: 65535}, "1-65535"}, {api.Ports{To: 65534}, "0-65534"},
	} {
		if s, e := ports.Print(c.p); s != c.s || e != api.OK || !ports.Right(c.p) {
			t.Errorf("Print(%v): %s %d", c.p, s, e)
		}
		if p, e := ports.Parse(c.s); p != c.p || e != api.OK {
			t.Errorf("Parse(%s): %v %d", c.s, p, e)
		}
	}
	for _, p := range wrongPorts {
		if s, e := ports.Print(p); s != "" || e != api.ErrPorts || ports.Right(p) {
			t.Errorf("Print(%v): %s %d", p, s, e)
		}
	}
	for _, s := range []string{
		"", "-", "**", "* ", " *", "80-", "-80", "80-80", "90-80", "0-65535", "65536", "1-65536", "080", "00", "0-080", "80 - 90", "80-90-100", "80,90", "+80", "x", "*-1", "1-*", "\xff", "99999999999999999999", "80-90 ",
	} {
		if p, e := ports.Parse(s); p != (api.Ports{}) || e != api.ErrPorts {
			t.Errorf("Parse(%q): %v %d", s, p, e)
		}
	}
}

// P7.1: what ports have, and what two have together.
func TestP7_1Has(t *testing.T) {
	p := api.Ports{From: 80, To: 90}
	for n, want := range map[int]bool{79: false, 80: true, 85: true, 90: true, 91: false, -1: false, math.MinInt: false, math.MaxInt: false} {
		if ports.Has(p, n) != want {
			t.Errorf("Has(%d)", n)
		}
	}
	for _, w := range wrongPorts {
		for _, n := range []int{-1, 0, 1, 2, 65536} {
			if ports.Has(w, n) {
				t.Errorf("Has(%v, %d)", w, n)
			}
		}
		for _, c := range [][2]api.Ports{{w, p}, {p, w}, {w, w}, {w, {To: 65535}}, {{To: 65535}, w}} {
			if m, ok := ports.Meet(c[0], c[1]); ok || m != (api.Ports{}) {
				t.Errorf("Meet(%v): %v", c, m)
			}
		}
	}
	for _, c := range []struct {
		q, m api.Ports
		ok   bool
	}{
		{api.Ports{From: 85, To: 100}, api.Ports{From: 85, To: 90}, true}, {api.Ports{To: 80}, api.Ports{From: 80, To: 80}, true}, {api.Ports{From: 90, To: 90}, api.Ports{From: 90, To: 90}, true},
		{api.Ports{To: 65535}, p, true}, {api.Ports{From: 82, To: 83}, api.Ports{From: 82, To: 83}, true}, {api.Ports{To: 79}, api.Ports{}, false}, {api.Ports{From: 91, To: 99}, api.Ports{}, false},
	} {
		m, ok := ports.Meet(p, c.q)
		n, ok2 := ports.Meet(c.q, p)
		if m != c.m || ok != c.ok || n != m || ok2 != ok {
			t.Errorf("Meet(%v): %v %t", c.q, m, ok)
		}
	}
}

// P7.2: targets and their texts.
func TestP7_2(t *testing.T) {
	for _, c := range []struct {
		t api.Target
		s string
	}{
		{api.Target{Addr: 0x01020304, Port: 80}, "1.2.3.4:80"}, {api.Target{Port: 1}, "0.0.0.0:1"}, {api.Target{Addr: api.MaxAddr, Port: 65535}, "255.255.255.255:65535"},
	} {
		if s, e := ports.PrintTarget(c.t); s != c.s || e != api.OK {
			t.Errorf("PrintTarget(%v): %s %d", c.t, s, e)
		}
		if x, e := ports.ParseTarget(c.s); x != c.t || e != api.OK {
			t.Errorf("ParseTarget(%s): %v %d", c.s, x, e)
		}
	}
	for _, x := range []api.Target{{}, {Addr: 1}, {Addr: 1, Port: -1}, {Addr: 1, Port: 65536}, {Addr: -1, Port: 80}, {Addr: api.MaxAddr + 1, Port: 80}, {Addr: math.MinInt, Port: math.MaxInt}} {
		if s, e := ports.PrintTarget(x); s != "" || e != api.ErrTarget {
			t.Errorf("PrintTarget(%v): %s %d", x, s, e)
		}
	}
	for _, s := range []string{
		"", ":", "1.2.3.4", "1.2.3.4:", ":80", "1.2.3.4:0", "1.2.3.4:65536", "1.2.3.4:080", "1.2.3.4:80:80", "1.2.3:80", "1.2.3.4 :80", "1.2.3.4: 80", "1.2.3.4:80 ", "1.2.3.4:*", "1.2.3.4:80-90", "1.2.3.4:-1", "01.2.3.4:80", "\xff:80",
	} {
		if x, e := ports.ParseTarget(s); x != (api.Target{}) || e != api.ErrTarget {
			t.Errorf("ParseTarget(%q): %v %d", s, x, e)
		}
	}
}

// P7.3: texts are parsed as what they are of; Meet has what both have.
func TestP7_3(t *testing.T) {
	r := rand.New(rand.NewSource(7))
	number := func() int { return []int{r.Intn(20), r.Intn(65536), 65535}[r.Intn(3)] }
	for range 5000 {
		p, q := api.Ports{From: number(), To: number()}, api.Ports{From: number(), To: number()}
		if s, e := ports.Print(p); e == api.OK {
			if b, e := ports.Parse(s); b != p || e != api.OK {
				t.Fatal(p, s, b, e)
			}
		}
		m, ok := ports.Meet(p, q)
		any := false
		for _, n := range []int{p.From - 1, p.From, p.To, p.To + 1, q.From - 1, q.From, q.To, q.To + 1, number()} {
			both := ports.Has(p, n) && ports.Has(q, n)
			any = any || both
			if ports.Has(m, n) && ok != both {
				t.Fatal(p, q, m, n)
			}
		}
		if any != ok {
			t.Fatal(p, q, m, ok)
		}
		x := api.Target{Addr: r.Intn(api.MaxAddr + 1), Port: 1 + r.Intn(65535)}
		s, e := ports.PrintTarget(x)
		if b, e2 := ports.ParseTarget(s); b != x || e != api.OK || e2 != api.OK || s[len(s)-len(strconv.Itoa(x.Port)):] != strconv.Itoa(x.Port) {
			t.Fatal(x, s, b, e, e2)
		}
	}
}
