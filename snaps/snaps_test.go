package snaps_test

import (
	"math"
	"math/rand"
	"slices"
	"strconv"
	"strings"
	"testing"

	"wicketgate/api"
	"wicketgate/snaps"
)

const last = api.MaxTick

func of(cursor, used int, items ...string) api.Snap {
	return api.Snap{Cursor: cursor, Items: items, Used: used}
}

func pool(next int, l ...api.Snap) api.Pool { return api.Pool{L: l, Next: next} }

func clone(p api.Pool) api.Pool {
	p.L = slices.Clone(p.L)
	for i := range p.L {
		p.L[i].Items = slices.Clone(p.L[i].Items)
	}
	return p
}

func many(n int) []string {
	var l []string
	for i := range n {
		l = append(l, strconv.Itoa(i))
	}
	return l
}

var wrongs = []api.Pool{
	{}, pool(-1), pool(last + 1), pool(math.MinInt), pool(9, of(1, 0), of(2, 0), of(3, 0), of(4, 0)), pool(9, of(1, 0), of(1, 0)), pool(9, of(1, 0), of(2, 0), of(1, 0)), pool(9, of(9, 0)), pool(9, of(10, 0)), pool(9, of(0, 0)), pool(9, of(-1, 0)), pool(1, of(1, 0)),
	pool(9, of(1, -1)), pool(9, of(1, last+1)), pool(9, of(1, 5), of(2, 4)), pool(9, of(1, 1), of(2, 5), of(3, 4)), pool(9, of(1, 0, "a\n")), pool(9, of(1, 0), of(2, 0, "a", strings.Repeat("w", 65))), pool(9, of(1, 0, many(65)...)), pool(9, of(math.MaxInt, math.MinInt)),
}

// P16.1: pools that are right.
func TestP16_1Right(t *testing.T) {
	if p := snaps.New(); p.Next != 1 || len(p.L) != 0 || !snaps.Right(p) {
		t.Errorf("%+v", p)
	}
	for _, p := range []api.Pool{
		pool(1), pool(last), pool(2, of(1, 0)), pool(9, of(8, 5), of(2, 5), of(5, 6)), pool(9, of(1, last, many(64)...)), pool(9, of(1, 0, "", strings.Repeat("w", 64), "same", "same")),
	} {
		if !snaps.Right(p) {
			t.Errorf("%+v is wrong", p)
		}
	}
	for _, p := range wrongs {
		if snaps.Right(p) {
			t.Errorf("%+v is right", p)
		}
		if q, c, e := snaps.Pin(p, []string{"a"}, 5); e != api.ErrPool || c != 0 || q.L != nil || q.Next != 0 {
			t.Errorf("Pin(%+v): %+v %d %d", p, q, c, e)
		}
		if q, l, at, e := snaps.Page(p, 1, 0, 1, 5); e != api.ErrPool || l != nil || at != 0 || q.L != nil || q.Next != 0 {
			t.Errorf("Page(%+v): %+v %v %d %d", p, q, l, at, e)
		}
	}
}

// P16.1: each field makes a difference.
func TestP16_1Same(t *testing.T) {
	p := pool(9, of(1, 5, "a", "b"), of(2, 6))
	if !snaps.Same(p, clone(p)) || !snaps.Same(api.Pool{}, api.Pool{L: []api.Snap{}}) || !snaps.Same(wrongs[9], clone(wrongs[9])) {
		t.Error("the same are not")
	}
	for _, q := range []api.Pool{
		{}, pool(8, p.L...), pool(9, p.L[0]), pool(9, of(3, 5, "a", "b"), p.L[1]), pool(9, of(1, 4, "a", "b"), p.L[1]), pool(9, of(1, 5, "a"), p.L[1]), pool(9, of(1, 5, "a", "c"), p.L[1]), pool(9, p.L[1], p.L[0]),
	} {
		if snaps.Same(p, q) || snaps.Same(q, p) {
			t.Errorf("%+v is the same", q)
		}
	}
}

// P16.2: what stays, and what is pinned behind it.
func TestP16_2(t *testing.T) {
	items := []string{"a", "b"}
	for _, c := range []struct {
		p    api.Pool
		now  int
		want api.Pool
	}{
		{snaps.New(), 0, pool(2, of(1, 0, items...))},
		{pool(5, of(4, 10, "x")), 10, pool(6, of(4, 10, "x"), of(5, 10, items...))},
		{pool(5, of(4, 10, "x")), 1009, pool(6, of(4, 10, "x"), of(5, 1009, items...))},
		{pool(5, of(4, 10, "x")), 1010, pool(6, of(5, 1010, items...))},
		{pool(5, of(4, 10), of(2, 20), of(3, 30)), 30, pool(6, of(2, 20), of(3, 30), of(5, 30, items...))},
		{pool(5, of(4, 10), of(2, 20), of(3, 30)), 1015, pool(6, of(2, 20), of(3, 30), of(5, 1015, items...))},
		{pool(5, of(4, 10), of(2, 20), of(3, 30)), 1025, pool(6, of(3, 30), of(5, 1025, items...))},
		{pool(5, of(4, 10), of(2, 20), of(3, 30)), last, pool(6, of(5, last, items...))},
		{pool(last - 1), 3, pool(last, of(last-1, 3, items...))},
	} {
		before := clone(c.p)
		p, cursor, e := snaps.Pin(c.p, items, c.now)
		if e != api.OK || !snaps.Same(p, c.want) || cursor != c.p.Next || !snaps.Same(c.p, before) || !snaps.Right(p) {
			t.Errorf("%+v at %d: %+v %d %d", c.p, c.now, p, cursor, e)
		}
		for i := range p.L {
			for k := range p.L[i].Items {
				p.L[i].Items[k] = "changed"
			}
		}
		if !snaps.Same(c.p, before) || items[0] != "a" {
			t.Error("memory is shared")
		}
	}
	one := pool(5, of(4, 10, "x"))
	for _, c := range []struct {
		p     api.Pool
		items []string
		now   int
	}{
		{one, many(65), 10}, {one, []string{"a", "\n"}, 10}, {one, []string{strings.Repeat("w", 65)}, 10}, {one, items, 9}, {one, items, -1}, {one, items, last + 1}, {snaps.New(), items, -1}, {pool(last), items, 10}, {one, items, math.MinInt}, {one, items, math.MaxInt},
	} {
		if p, cursor, e := snaps.Pin(c.p, c.items, c.now); e != api.ErrPool || cursor != 0 || p.L != nil || p.Next != 0 {
			t.Errorf("%v at %d: %+v %d %d", c.items, c.now, p, cursor, e)
		}
	}
	if p, cursor, e := snaps.Pin(one, nil, 10); e != api.OK || cursor != 5 || len(p.L[1].Items) != 0 {
		t.Error(p, cursor, e)
	}
	if _, _, e := snaps.Pin(one, many(64), 10); e != api.OK {
		t.Error(e)
	}
}

// P16.3: pages, and the place behind them.
func TestP16_3(t *testing.T) {
	p := pool(9, of(3, 10, many(12)...), of(1, 20, "x"), of(8, 30))
	for _, c := range []struct {
		cursor, from, n, now int
		want                 []string
		behind               int
	}{
		{3, 0, 2, 30, []string{"0", "1"}, 2}, {3, 2, 10, 30, many(12)[2:], -1}, {3, 1, 10, 30, many(12)[1:11], 11}, {3, 11, 1, 30, []string{"11"}, -1}, {3, 12, 1, 30, nil, -1}, {3, 10, 1, 1009, []string{"10"}, 11},
		{1, 0, 1, 30, []string{"x"}, -1}, {1, 0, 10, 1019, []string{"x"}, -1}, {8, 0, 1, 1029, nil, -1},
	} {
		before := clone(p)
		q, l, behind, e := snaps.Page(p, c.cursor, c.from, c.n, c.now)
		if e != api.OK || !slices.Equal(l, c.want) || behind != c.behind || !snaps.Same(p, before) || !snaps.Right(q) {
			t.Errorf("%+v: %v %d %d", c, l, behind, e)
			continue
		}
		var want []api.Snap
		for _, s := range p.L {
			if s.Cursor != c.cursor {
				want = append(want, s)
			}
		}
		s := p.L[slices.IndexFunc(p.L, func(s api.Snap) bool { return s.Cursor == c.cursor })]
		s.Used = c.now
		if !snaps.Same(q, api.Pool{L: append(want, s), Next: 9}) {
			t.Errorf("%+v: %+v", c, q)
		}
		kept := clone(q)
		for i := range l {
			l[i] = "changed"
		}
		_ = append(l, "changed")
		if !snaps.Same(q, kept) || !snaps.Same(p, before) {
			t.Errorf("%+v: memory is shared", c)
		}
		for i := range q.L {
			for k := range q.L[i].Items {
				q.L[i].Items[k] = "changed"
			}
		}
		if !snaps.Same(p, before) {
			t.Errorf("%+v: memory is shared", c)
		}
	}
	for _, c := range []struct {
		cursor, from, n, now int
		e                    api.Errno
	}{
		{3, 0, 0, 29, api.ErrPool}, {3, 0, 1, last + 1, api.ErrPool}, {3, 0, 1, math.MinInt, api.ErrPool}, {7, -1, 0, 30, api.ErrArg}, {3, 0, 11, 30, api.ErrArg}, {3, 0, -1, 30, api.ErrArg}, {3, 0, math.MaxInt, 30, api.ErrArg},
		{7, 0, 1, 30, api.ErrCursor}, {0, 0, 1, 30, api.ErrCursor}, {-1, 0, 1, 30, api.ErrCursor}, {9, 0, 1, 30, api.ErrCursor}, {3, -1, 1, 30, api.ErrCursor}, {3, 13, 1, 30, api.ErrCursor}, {3, math.MaxInt, 1, 30, api.ErrCursor}, {3, math.MinInt, 1, 30, api.ErrCursor},
		{3, 0, 1, 1010, api.ErrCursor}, {1, 0, 1, 1020, api.ErrCursor}, {8, 0, 1, last, api.ErrCursor},
	} {
		if q, l, behind, e := snaps.Page(p, c.cursor, c.from, c.n, c.now); e != c.e || l != nil || behind != 0 || q.L != nil || q.Next != 0 {
			t.Errorf("%+v: %+v %v %d %d", c, q, l, behind, e)
		}
	}
	if _, _, _, e := snaps.Page(snaps.New(), 1, 0, 1, -1); e != api.ErrPool {
		t.Error(e)
	}
}

// P16.4: pages one after the other are all items, each once, whatever is pinned between them; or one is an error.
func TestP16_4(t *testing.T) {
	r := rand.New(rand.NewSource(16))
	whole, broken := 0, 0
	for range 2000 {
		p, now := snaps.New(), 0
		items := many(r.Intn(20))
		p, cursor, _ := snaps.Pin(p, items, now)
		var got []string
		for from := 0; from >= 0; {
			now += r.Intn(1100)
			for range r.Intn(4) {
				p, _, _ = snaps.Pin(p, many(r.Intn(5)), now)
			}
			q, l, behind, e := snaps.Page(p, cursor, from, 1+r.Intn(6), now)
			if e != api.OK {
				got = nil
				broken++
				break
			}
			p, from = q, behind
			got = append(got, l...)
			if from < 0 {
				whole++
				if !slices.Equal(got, items) {
					t.Fatal(got, items)
				}
			}
		}
	}
	if whole < 100 || broken < 100 {
		t.Error(whole, broken)
	}
}
