package addr_test

import (
	"math"
	"math/rand"
	"strconv"
	"strings"
	"testing"

	"wicketgate/addr"
	"wicketgate/api"
)

const most = api.MaxAddr

// P6.1: addresses and their texts.
func TestP6_1Address(t *testing.T) {
	for _, c := range []struct {
		a int
		s string
	}{{0, "0.0.0.0"}, {most, "255.255.255.255"}, {0x01020304, "1.2.3.4"}, {10<<24 | 100, "10.0.0.100"}, {200 << 16, "0.200.0.0"}} {
		if s, e := addr.Print(c.a); s != c.s || e != api.OK {
			t.Errorf("Print(%d): %s %d", c.a, s, e)
		}
		if a, e := addr.Parse(c.s); a != c.a || e != api.OK {
			t.Errorf("Parse(%s): %d %d", c.s, a, e)
		}
	}
	for _, a := range []int{-1, most + 1, math.MinInt, math.MaxInt} {
		if s, e := addr.Print(a); s != "" || e != api.ErrAddr {
			t.Errorf("Print(%d): %s %d", a, s, e)
		}
	}
	for _, s := range []string{
		"", ".", "1", "1.2.3", "1.2.3.", ".1.2.3", "1..2.3", "1.2.3.4.", "1.2.3.4.5", "256.0.0.0", "0.0.0.256", "01.2.3.4", "1.2.3.00", "1.2.3.04", "-1.2.3.4", "+1.2.3.4",
		" 1.2.3.4", "1.2.3.4 ", "1.2.3.4/8", "a.b.c.d", "1.2.3.x", "1.2.3.4\n", "1.2.3.\xff", "1,2,3,4", "1.2.3.99999999999999999999", "0x1.2.3.4", "1.2.3.٣",
	} {
		if a, e := addr.Parse(s); a != 0 || e != api.ErrAddr {
			t.Errorf("Parse(%q): %d %d", s, a, e)
		}
	}
}

// P6.1: prefixes and their texts.
func TestP6_1Prefix(t *testing.T) {
	for _, c := range []struct {
		p api.Prefix
		s string
	}{
		{api.Prefix{}, "0.0.0.0/0"}, {api.Prefix{Addr: most, Bits: 32}, "255.255.255.255/32"}, {api.Prefix{Addr: 10<<24 | 1<<16, Bits: 16}, "10.1.0.0/16"},
		{api.Prefix{Addr: 1 << 31, Bits: 1}, "128.0.0.0/1"}, {api.Prefix{Addr: 6, Bits: 31}, "0.0.0.6/31"}, {api.Prefix{Bits: 9}, "0.0.0.0/9"},
	} {
		if s, e := addr.PrintPrefix(c.p); s != c.s || e != api.OK || !addr.Right(c.p) {
			t.Errorf("PrintPrefix(%v): %s %d", c.p, s, e)
		}
		if p, e := addr.ParsePrefix(c.s); p != c.p || e != api.OK {
			t.Errorf("ParsePrefix(%s): %v %d", c.s, p, e)
		}
	}
	for _, p := range []api.Prefix{
		{Bits: -1}, {Bits: 33}, {Bits: math.MinInt}, {Bits: math.MaxInt}, {Addr: -1, Bits: 32}, {Addr: most + 1, Bits: 32}, {Addr: 1 << 32}, {Addr: math.MinInt}, {Addr: 1 << 40},
		{Addr: 1}, {Addr: 1, Bits: 31}, {Addr: 1 << 31}, {Addr: 10<<24 | 1, Bits: 16}, {Addr: 3, Bits: 31},
	} {
		if s, e := addr.PrintPrefix(p); s != "" || e != api.ErrPrefix || addr.Right(p) {
			t.Errorf("PrintPrefix(%v): %s %d", p, s, e)
		}
	}
	for _, s := range []string{
		"", "/", "/8", "10.0.0.0", "10.0.0.0/", "10.0.0.0/33", "10.0.0.0/-1", "10.0.0.0/08", "10.0.0.0/8 ", " 10.0.0.0/8", "10.0.0/8", "10.0.0.1/8", "0.0.0.1/0", "10.0.0.0/8/8", "256.0.0.0/8",
		"10.0.0.0/00", "10.0.0.0//8", "10.0.0.0/99999999999999999999", "10.0.0.0/x",
	} {
		if p, e := addr.ParsePrefix(s); p != (api.Prefix{}) || e != api.ErrPrefix {
			t.Errorf("ParsePrefix(%q): %v %d", s, p, e)
		}
	}
}

// P6.2: what a prefix has, where it lies, its ends.
func TestP6_2(t *testing.T) {
	p := api.Prefix{Addr: 10<<24 | 1<<16, Bits: 16}
	for _, c := range []struct {
		a   int
		has bool
	}{{10<<24 | 1<<16 | 2<<8 | 3, true}, {10<<24 | 2<<16, false}, {p.Addr, true}, {p.Addr | 65535, true}, {p.Addr - 1, false}, {p.Addr + 65536, false}, {-1, false}, {most + 1, false}, {p.Addr + 1<<32, false}, {p.Addr - 1<<32, false}} {
		if addr.Has(p, c.a) != c.has {
			t.Errorf("Has(%v, %d)", p, c.a)
		}
	}
	all, wrong := api.Prefix{}, api.Prefix{Addr: 1}
	if !addr.Has(all, 0) || !addr.Has(all, most) || addr.Has(all, most+1) || addr.Has(all, -1) || addr.Has(wrong, 1) || addr.Has(api.Prefix{Bits: 33}, 0) || addr.Has(api.Prefix{Bits: -1}, 0) {
		t.Error("Has")
	}
	narrow := api.Prefix{Addr: p.Addr | 256, Bits: 24}
	for _, c := range []struct {
		p, q api.Prefix
		in   bool
	}{{narrow, p, true}, {p, narrow, false}, {p, p, true}, {p, all, true}, {all, p, false}, {all, all, true}, {p, api.Prefix{Addr: 11 << 24, Bits: 8}, false}, {wrong, all, false}, {p, wrong, false}, {api.Prefix{Bits: 40}, all, false}, {p, api.Prefix{Bits: -40}, false}} {
		if addr.In(c.p, c.q) != c.in {
			t.Errorf("In(%v, %v)", c.p, c.q)
		}
	}
	if a, b, e := addr.Ends(p); a != p.Addr || b != p.Addr|65535 || e != api.OK {
		t.Error(a, b, e)
	}
	if a, b, e := addr.Ends(all); a != 0 || b != most || e != api.OK {
		t.Error(a, b, e)
	}
	if a, b, e := addr.Ends(api.Prefix{Addr: 7, Bits: 32}); a != 7 || b != 7 || e != api.OK {
		t.Error(a, b, e)
	}
	if a, b, e := addr.Ends(wrong); a != 0 || b != 0 || e != api.ErrPrefix {
		t.Error(a, b, e)
	}
}

// P6.2: the prefix of an address; a wrong address is told ahead of wrong bits.
func TestP6_2Of(t *testing.T) {
	for _, c := range []struct {
		a, bits int
		want    api.Prefix
		e       api.Errno
	}{
		{0x0a010203, 16, api.Prefix{Addr: 0x0a010000, Bits: 16}, 0}, {most, 0, api.Prefix{}, 0}, {most, 32, api.Prefix{Addr: most, Bits: 32}, 0}, {most, 1, api.Prefix{Addr: 1 << 31, Bits: 1}, 0},
		{-1, 16, api.Prefix{}, api.ErrAddr}, {most + 1, 99, api.Prefix{}, api.ErrAddr}, {1, -1, api.Prefix{}, api.ErrPrefix}, {1, 33, api.Prefix{}, api.ErrPrefix}, {0, math.MinInt, api.Prefix{}, api.ErrPrefix},
	} {
		if p, e := addr.Of(c.a, c.bits); p != c.want || e != c.e {
			t.Errorf("Of(%d, %d): %v %d", c.a, c.bits, p, e)
		}
	}
}

// P6.3: texts are parsed as what they are of, prefixes have what lies between their ends, and lie in one another or apart.
func TestP6_3(t *testing.T) {
	r := rand.New(rand.NewSource(6))
	some := func() api.Prefix {
		bits := r.Intn(33)
		p, e := addr.Of(r.Intn(4)<<30|r.Intn(8), bits)
		if e != api.OK || !addr.Right(p) {
			t.Fatal(p, e)
		}
		return p
	}
	for range 5000 {
		a := r.Intn(most + 1)
		s, _ := addr.Print(a)
		if b, e := addr.Parse(s); b != a || e != api.OK {
			t.Fatal(a, s, b, e)
		}
		p, q := some(), some()
		s, _ = addr.PrintPrefix(p)
		if b, e := addr.ParsePrefix(s); b != p || e != api.OK || !strings.HasSuffix(s, "/"+strconv.Itoa(p.Bits)) {
			t.Fatal(p, s, b, e)
		}
		from, to, _ := addr.Ends(p)
		for _, x := range []int{from - 1, from, from + 1, to - 1, to, to + 1, a} {
			if addr.Has(p, x) != (x >= from && x <= to) {
				t.Fatal(p, x)
			}
		}
		f, g, _ := addr.Ends(q)
		if addr.In(p, q) != (from >= f && to <= g) || !addr.In(p, q) && !addr.In(q, p) && from <= g && f <= to {
			t.Fatal(p, q)
		}
	}
}
