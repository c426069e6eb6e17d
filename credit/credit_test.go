package credit_test

import (
	"math"
	"math/rand"
	"slices"
	"testing"

	"wicketgate/api"
	"wicketgate/credit"
)

const most = api.MaxSent

func of(granted, spent int) api.Credit { return api.Credit{Granted: granted, Spent: spent} }

var wrongs = []api.Credit{
	of(-1, 0), of(-1, -1), of(0, -1), of(0, 1), of(5, 6), of(65537, 0), of(65538, 1), of(most+1, most), of(most+1, most+1), of(most, most-65537), of(math.MaxInt, math.MinInt), of(math.MinInt, math.MaxInt), of(math.MaxInt, math.MaxInt), of(math.MinInt, math.MinInt),
}

// P13.1: credit that is right, new credit, what is left.
func TestP13_1(t *testing.T) {
	for c, left := range map[api.Credit]int{of(0, 0): 0, of(5, 5): 0, of(5, 0): 5, of(65536, 0): 65536, of(65537, 1): 65536, of(most, most): 0, of(most, most-65536): 65536} {
		if !credit.Right(c) || credit.Left(c) != left {
			t.Errorf("%v: %t %d", c, credit.Right(c), credit.Left(c))
		}
	}
	for _, c := range wrongs {
		if credit.Right(c) || credit.Left(c) != 0 || credit.Most(c, nil) != 0 || credit.Most(c, []int{7}) != 0 {
			t.Errorf("%v is right, %d left", c, credit.Left(c))
		}
	}
	for _, n := range []int{0, 1, 65536} {
		if c, e := credit.New(n); c != of(n, 0) || e != api.OK {
			t.Errorf("New(%d): %v %d", n, c, e)
		}
	}
	for _, n := range []int{-1, 65537, math.MinInt, math.MaxInt} {
		if c, e := credit.New(n); c != of(0, 0) || e != api.ErrArg {
			t.Errorf("New(%d): %v %d", n, c, e)
		}
	}
}

// P13.1: the least one of what is left and some numbers.
func TestP13_1Most(t *testing.T) {
	for _, c := range []struct {
		l    []int
		want int
	}{
		{nil, 8}, {[]int{}, 8}, {[]int{9, 10}, 8}, {[]int{9, 3, 5}, 3}, {[]int{0}, 0}, {[]int{5, 0, 3}, 0}, {[]int{math.MaxInt}, 8}, {[]int{-1}, 0}, {[]int{4, -1, 5}, 0}, {[]int{4, math.MinInt}, 0},
	} {
		before := slices.Clone(c.l)
		if n := credit.Most(of(10, 2), c.l); n != c.want || !slices.Equal(c.l, before) {
			t.Errorf("Most(%v): %d", c.l, n)
		}
	}
}

// P13.2: what is granted and spent.
func TestP13_2(t *testing.T) {
	type change func(api.Credit, int) (api.Credit, api.Errno)
	for _, c := range []struct {
		name string
		do   change
		c    api.Credit
		n    int
		want api.Credit
		e    api.Errno
	}{
		{"grant", credit.Grant, of(10, 7), 5, of(15, 7), 0}, {"grant", credit.Grant, of(0, 0), 0, of(0, 0), 0}, {"grant", credit.Grant, of(0, 0), 65536, of(65536, 0), 0},
		{"grant", credit.Grant, of(0, 0), 65537, of(0, 0), api.ErrCredit}, {"grant", credit.Grant, of(1, 0), 65536, of(0, 0), api.ErrCredit}, {"grant", credit.Grant, of(1, 1), 65536, of(65537, 1), 0},
		{"grant", credit.Grant, of(most, most), 1, of(0, 0), api.ErrCredit}, {"grant", credit.Grant, of(most-1, most-1), 1, of(most, most-1), 0}, {"grant", credit.Grant, of(1, 0), math.MaxInt, of(0, 0), api.ErrCredit},
		{"grant", credit.Grant, of(1, 0), -1, of(0, 0), api.ErrArg}, {"grant", credit.Grant, of(1, 0), math.MinInt, of(0, 0), api.ErrArg}, {"grant", credit.Grant, of(1, 2), 99999, of(0, 0), api.ErrArg},
		{"spend", credit.Spend, of(15, 7), 8, of(15, 15), 0}, {"spend", credit.Spend, of(15, 7), 9, of(0, 0), api.ErrCredit}, {"spend", credit.Spend, of(15, 7), 0, of(15, 7), 0}, {"spend", credit.Spend, of(0, 0), 1, of(0, 0), api.ErrCredit},
		{"spend", credit.Spend, of(65536, 0), 65536, of(65536, 65536), 0}, {"spend", credit.Spend, of(15, 7), math.MaxInt, of(0, 0), api.ErrCredit}, {"spend", credit.Spend, of(15, 7), -1, of(0, 0), api.ErrArg}, {"spend", credit.Spend, of(15, 16), 0, of(0, 0), api.ErrArg},
	} {
		if x, e := c.do(c.c, c.n); x != c.want || e != c.e {
			t.Errorf("%s %d of %v: %v %d", c.name, c.n, c.c, x, e)
		}
	}
	for _, c := range wrongs {
		for _, n := range []int{0, 1, -1, math.MaxInt} {
			x, e := credit.Grant(c, n)
			y, e2 := credit.Spend(c, n)
			if x != of(0, 0) || y != of(0, 0) || e != api.ErrArg || e2 != api.ErrArg {
				t.Errorf("%v: %v %d %v %d", c, x, e, y, e2)
			}
		}
	}
}

// P13.3: never more is spent than was granted, and both only grow; parts leave what the whole does.
func TestP13_3(t *testing.T) {
	r := rand.New(rand.NewSource(13))
	c, granted, spent := of(0, 0), 0, 0
	for range 20000 {
		n := r.Intn(40000)
		if r.Intn(2) == 0 {
			x, e := credit.Grant(c, n)
			if (e == api.OK) != (granted+n-spent <= 65536) {
				t.Fatal(c, n, e)
			}
			if e == api.OK {
				c, granted = x, granted+n
			}
		} else {
			x, e := credit.Spend(c, n)
			if (e == api.OK) != (n <= granted-spent) {
				t.Fatal(c, n, e)
			}
			if e == api.OK {
				part := r.Intn(n + 1)
				y, _ := credit.Spend(c, part)
				z, e := credit.Spend(y, n-part)
				if z != x || e != api.OK {
					t.Fatal(c, n, part, z, e)
				}
				c, spent = x, spent+n
			}
		}
		if c != of(granted, spent) || !credit.Right(c) || credit.Left(c) != granted-spent {
			t.Fatal(c, granted, spent)
		}
	}
}
