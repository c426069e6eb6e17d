package cred_test

import (
	"math"
	"math/rand"
	"slices"
	"strings"
	"testing"

	"wicketgate/api"
	"wicketgate/cred"
	"wicketgate/mac"
)

func of(id int, key string, from, to int) api.Cred {
	return api.Cred{Id: id, Key: key, From: from, To: to}
}

const last = api.MaxTick

var wrongs = [][]api.Cred{
	{of(0, "k", 0, 1)}, {of(-1, "k", 0, 1)}, {of(1000000001, "k", 0, 1)}, {of(1, "", 0, 1)}, {of(1, strings.Repeat("k", 65), 0, 1)}, {of(1, "k", -1, 1)}, {of(1, "k", 5, 5)}, {of(1, "k", 6, 5)}, {of(1, "k", 0, last+1)},
	{of(1, "k", 0, 1), of(1, "k", 0, 1)}, {of(2, "k", 0, 1), of(1, "k", 0, 1)}, {of(1, "k", 0, 9), of(2, "", 0, 9)}, {of(1, "k", 0, 9), of(2, "k", 0, 9), of(3, "k", 0, 9), of(4, "k", 0, 9), of(5, "k", 0, 9)},
	{of(math.MinInt, "k", math.MinInt, math.MaxInt)}, {of(math.MaxInt, "k", 0, 1), of(math.MinInt, "k", 0, 1)}, {of(1, "k", 0, 1), of(3, "k", 0, 1), of(2, "k", 0, 1)},
}

// P11.1: credentials that are right.
func TestP11_1Right(t *testing.T) {
	for _, l := range [][]api.Cred{nil, {}, {of(1, "k", 0, 1)}, {of(1000000000, strings.Repeat("k", 64), last-1, last)}, {of(1, "k", 0, 9), of(2, "k", 0, 9), of(7, "k", 5, 9), of(8, "\x00", 0, last)}} {
		if !cred.Right(l) {
			t.Errorf("%v is wrong", l)
		}
	}
	for _, l := range wrongs {
		if cred.Right(l) || len(cred.Holding(l, 0)) != 0 {
			t.Errorf("%v is right", l)
		}
	}
}

// P11.1: a credential holds from From up to, not with, To.
func TestP11_1Holding(t *testing.T) {
	l := []api.Cred{of(1, "a", 0, 10), of(2, "b", 5, 8), of(4, "c", 8, 20)}
	for now, want := range map[int][]int{-1: nil, 0: {1}, 4: {1}, 5: {1, 2}, 7: {1, 2}, 8: {1, 4}, 9: {1, 4}, 10: {4}, 19: {4}, 20: nil, math.MinInt: nil, math.MaxInt: nil} {
		var ids []int
		for _, c := range cred.Holding(l, now) {
			if c != l[slices.Index([]int{1, 2, 4}, c.Id)] {
				t.Error(c)
			}
			ids = append(ids, c.Id)
		}
		if !slices.Equal(ids, want) {
			t.Errorf("at %d: %v", now, ids)
		}
	}
	h := cred.Holding(l, 5)
	h[0].Key = "x"
	_ = append(h, api.Cred{})
	if l[0].Key != "a" || l[2].Id != 4 {
		t.Error("what was handed in is changed")
	}
}

// P11.1: a proof is the answer of the first one that holds.
func TestP11_1Check(t *testing.T) {
	l := []api.Cred{of(1, "a", 0, 10), of(2, "b", 5, 8), of(3, "b", 5, 20)}
	c, _ := mac.Challenge(1, 2)
	other, _ := mac.Challenge(1, 3)
	answer := func(key, challenge, name string) string {
		s, _ := mac.Answer(key, challenge, name)
		return s
	}
	for _, x := range []struct {
		now              int
		challenge, proof string
		id               int
	}{
		{5, c, answer("a", c, "acme"), 1}, {5, c, answer("b", c, "acme"), 2}, {8, c, answer("b", c, "acme"), 3}, {4, c, answer("b", c, "acme"), 0}, {10, c, answer("a", c, "acme"), 0}, {20, c, answer("b", c, "acme"), 0},
		{5, c, answer("a", c, "acm"), 0}, {5, c, answer("a", other, "acme"), 0}, {5, other, answer("a", c, "acme"), 0}, {5, c, "", 0}, {5, "", "", 0}, {5, "short", answer("a", "short", "acme"), 0}, {5, c, answer("a", c, "acme") + "x", 0}, {5, c, answer("a", c, "acme")[:31], 0}, {5, c, answer("z", c, "acme"), 0},
	} {
		if id, ok := cred.Check(l, x.now, x.challenge, "acme", x.proof); id != x.id || ok != (x.id != 0) {
			t.Errorf("at %d: %d %t, not %d", x.now, id, ok, x.id)
		}
	}
	wrong := append(slices.Clone(l), of(3, "c", 0, 99))
	if id, ok := cred.Check(wrong, 5, c, "acme", answer("a", c, "acme")); id != 0 || ok {
		t.Error(id, ok)
	}
}

// P11.2: a rotation shortens what goes on, and puts a new one behind.
func TestP11_2Rotate(t *testing.T) {
	for _, c := range []struct {
		l                  []api.Cred
		now, overlap, span int
		want               []api.Cred
	}{
		{nil, 0, 0, 1, []api.Cred{of(1, "n", 0, 1)}},
		{[]api.Cred{of(1, "k", 0, 100)}, 50, 10, 100, []api.Cred{of(1, "k", 0, 60), of(2, "n", 50, 150)}},
		{[]api.Cred{of(1, "k", 0, 100)}, 50, 0, 1, []api.Cred{of(1, "k", 0, 50), of(2, "n", 50, 51)}},
		{[]api.Cred{of(1, "k", 0, 55)}, 50, 10, 5, []api.Cred{of(1, "k", 0, 55), of(2, "n", 50, 55)}},
		{[]api.Cred{of(1, "k", 0, 50)}, 50, 10, 5, []api.Cred{of(2, "n", 50, 55)}},
		{[]api.Cred{of(1, "k", 0, 51)}, 50, 10, 5, []api.Cred{of(1, "k", 0, 51), of(2, "n", 50, 55)}},
		{[]api.Cred{of(5, "k", 50, 90)}, 50, 0, 5, []api.Cred{of(6, "n", 50, 55)}},
		{[]api.Cred{of(5, "k", 50, 90)}, 50, 1, 5, []api.Cred{of(5, "k", 50, 51), of(6, "n", 50, 55)}},
		{[]api.Cred{of(5, "k", 60, 90)}, 50, 10, 5, []api.Cred{of(6, "n", 50, 55)}},
		{[]api.Cred{of(5, "k", 59, 90)}, 50, 10, 5, []api.Cred{of(5, "k", 59, 60), of(6, "n", 50, 55)}},
		{[]api.Cred{of(1, "a", 0, 90), of(2, "b", 0, 20), of(3, "c", 0, 52), of(9, "d", 80, 90)}, 50, 5, 5, []api.Cred{of(1, "a", 0, 55), of(3, "c", 0, 52), of(10, "n", 50, 55)}},
		{[]api.Cred{of(1, "a", 0, 90), of(2, "b", 0, 90), of(3, "c", 0, 90)}, 50, 5, 5, []api.Cred{of(1, "a", 0, 55), of(2, "b", 0, 55), of(3, "c", 0, 55), of(4, "n", 50, 55)}},
		{[]api.Cred{of(999999999, "a", 0, 90)}, 50, 5, 1000000000, []api.Cred{of(999999999, "a", 0, 55), of(1000000000, "n", 50, 1000000050)}},
		{[]api.Cred{of(1, "a", 0, last)}, last - 1, 1000000000, 1, []api.Cred{of(1, "a", 0, last), of(2, "n", last-1, last)}},
	} {
		before := slices.Clone(c.l)
		l, id, e := cred.Rotate(c.l, "n", c.now, c.overlap, c.span)
		if e != api.OK || !slices.Equal(l, c.want) || id != l[len(l)-1].Id || !slices.Equal(c.l, before) || !cred.Right(l) {
			t.Errorf("%v at %d: %v %d %d", c.l, c.now, l, id, e)
		}
	}
}

// P11.2: what can't be rotated, and which error is told first.
func TestP11_2RotateErrors(t *testing.T) {
	one := []api.Cred{of(1, "k", 0, 100)}
	four := []api.Cred{of(1, "a", 0, 90), of(2, "b", 0, 90), of(3, "c", 0, 90), of(4, "d", 0, 90)}
	for _, c := range []struct {
		l                  []api.Cred
		key                string
		now, overlap, span int
		e                  api.Errno
	}{
		{wrongs[0], "", -1, -1, 0, api.ErrCreds}, {wrongs[10], "n", 5, 5, 5, api.ErrCreds}, {one, "", -1, -1, 0, api.ErrKey}, {one, strings.Repeat("k", 65), 5, 5, 5, api.ErrKey},
		{one, "n", -1, 5, 5, api.ErrArg}, {one, "n", last + 1, 5, 5, api.ErrArg}, {one, "n", 5, -1, 5, api.ErrArg}, {one, "n", 5, 1000000001, 5, api.ErrArg}, {one, "n", 5, 5, 0, api.ErrArg}, {one, "n", 5, 5, 1000000001, api.ErrArg},
		{one, "n", last, 0, 1, api.ErrArg}, {one, "n", last - 1, 0, 2, api.ErrArg}, {one, "n", math.MaxInt, math.MaxInt, math.MaxInt, api.ErrArg}, {one, "n", math.MinInt, 5, 5, api.ErrArg}, {one, "n", 0, math.MinInt, 5, api.ErrArg}, {one, "n", 0, 0, math.MinInt, api.ErrArg},
		{four, "n", 50, 5, 5, api.ErrFull}, {four, "n", 50, 5, 0, api.ErrArg}, {[]api.Cred{of(1000000000, "k", 0, 9)}, "n", 50, 5, 5, api.ErrFull},
	} {
		if l, id, e := cred.Rotate(c.l, c.key, c.now, c.overlap, c.span); l != nil || id != 0 || e != c.e {
			t.Errorf("%v: %v %d %d", c, l, id, e)
		}
	}
	if l, id, e := cred.Rotate(four, "n", 90, 5, 5); e != api.OK || id != 5 || len(l) != 1 {
		t.Error(l, id, e)
	}
}

// P11.2: one is ended.
func TestP11_2End(t *testing.T) {
	l := []api.Cred{of(1, "a", 0, 10), of(2, "b", 5, 8), of(4, "c", 8, 20)}
	for _, c := range []struct {
		id, now int
		want    []api.Cred
	}{
		{1, 5, []api.Cred{of(1, "a", 0, 5), l[1], l[2]}}, {2, 5, []api.Cred{l[0], l[2]}}, {2, 6, []api.Cred{l[0], of(2, "b", 5, 6), l[2]}}, {1, 0, l[1:]}, {4, 19, []api.Cred{l[0], l[1], of(4, "c", 8, 19)}},
	} {
		x, e := cred.End(l, c.id, c.now)
		if e != api.OK || !slices.Equal(x, c.want) {
			t.Errorf("End(%d, %d): %v %d", c.id, c.now, x, e)
		}
		x[0].Key = "changed"
	}
	if x, e := cred.End([]api.Cred{of(1, "a", 3, 10)}, 1, 3); e != api.OK || len(x) != 0 {
		t.Error(x, e)
	}
	if l[0].Key != "a" || l[0].To != 10 {
		t.Error("what was handed in is changed")
	}
	for _, c := range []struct {
		l       []api.Cred
		id, now int
		e       api.Errno
	}{
		{wrongs[1], 1, -1, api.ErrCreds}, {l, 1, -1, api.ErrArg}, {l, 1, last + 1, api.ErrArg}, {l, 3, 5, api.ErrArg}, {l, 0, 5, api.ErrArg}, {l, 1, 10, api.ErrArg}, {l, 2, 4, api.ErrArg}, {l, 4, 7, api.ErrArg}, {nil, 1, 5, api.ErrArg}, {l, math.MinInt, math.MaxInt, api.ErrArg},
	} {
		if x, e := cred.End(c.l, c.id, c.now); x != nil || e != c.e {
			t.Errorf("End(%v, %d, %d): %v %d", c.l, c.id, c.now, x, e)
		}
	}
}

// P11.3: what a rotation makes holds from then on, what held ahead holds for the overlap yet; numbers are not given twice.
func TestP11_3(t *testing.T) {
	r := rand.New(rand.NewSource(11))
	for range 500 {
		var l []api.Cred
		now := 0
		for range 20 {
			now += r.Intn(10)
			overlap, span := r.Intn(12), 1+r.Intn(30)
			x, id, e := cred.Rotate(l, "k", now, overlap, span)
			if e == api.ErrFull {
				continue
			}
			if e != api.OK || len(l) > 0 && id != l[len(l)-1].Id+1 || !cred.Right(x) {
				t.Fatal(l, x, id, e)
			}
			for at := now; at < now+50; at++ {
				var want []int
				for _, c := range cred.Holding(l, at) {
					if at < now+overlap {
						want = append(want, c.Id)
					}
				}
				if at < now+span {
					want = append(want, id)
				}
				var got []int
				for _, c := range cred.Holding(x, at) {
					got = append(got, c.Id)
				}
				if !slices.Equal(got, want) {
					t.Fatal(l, x, now, overlap, span, at)
				}
			}
			l = x
			if r.Intn(3) == 0 {
				y, e := cred.End(l, id, now)
				if e != api.OK || slices.ContainsFunc(cred.Holding(y, now), func(c api.Cred) bool { return c.Id == id }) {
					t.Fatal(l, y, e)
				}
				l = y
			}
		}
	}
}
