package timer_test

import (
	"cmp"
	"math"
	"math/rand"
	"slices"
	"testing"

	"wicketgate/api"
	"wicketgate/timer"
)

func set(t *testing.T, x *timer.Timer, l ...[2]int) {
	t.Helper()
	for _, s := range l {
		if e := x.Set(s[0], s[1]); e != api.OK {
			t.Fatalf("Set(%d, %d): %d", s[0], s[1], e)
		}
	}
}

// P10.1: keys are set, found and cancelled.
func TestP10_1(t *testing.T) {
	x := timer.New()
	if x == nil || len(x.Keys()) != 0 {
		t.Fatal("New")
	}
	set(t, x, [2]int{5, 9}, [2]int{3, 9}, [2]int{7, 2}, [2]int{0, 0}, [2]int{1000000, 1000000000000}, [2]int{7, 4})
	if l := x.Keys(); !slices.Equal(l, []int{0, 7, 3, 5, 1000000}) {
		t.Error(l)
	}
	for key, want := range map[int]int{5: 9, 3: 9, 7: 4, 0: 0, 1000000: 1000000000000} {
		if at, ok := x.Find(key); at != want || !ok {
			t.Errorf("Find(%d): %d %t", key, at, ok)
		}
	}
	for _, key := range []int{1, -1, math.MinInt, math.MaxInt} {
		if at, ok := x.Find(key); at != 0 || ok || x.Cancel(key) {
			t.Errorf("Find(%d): %d %t", key, at, ok)
		}
	}
	if !x.Cancel(3) || x.Cancel(3) || !slices.Equal(x.Keys(), []int{0, 7, 5, 1000000}) {
		t.Error("Cancel", x.Keys())
	}
	if _, ok := x.Find(3); ok {
		t.Error("a cancelled key is found")
	}
	l := x.Keys()
	l[0] = 99
	if !slices.Equal(x.Keys(), []int{0, 7, 5, 1000000}) {
		t.Error("what was answered is kept")
	}
}

// P10.1: what can't be set.
func TestP10_1Errors(t *testing.T) {
	x := timer.New()
	for _, c := range [][2]int{{-1, 0}, {1000001, 0}, {0, -1}, {0, 1000000000001}, {math.MinInt, math.MinInt}, {math.MaxInt, math.MaxInt}} {
		if e := x.Set(c[0], c[1]); e != api.ErrArg || len(x.Keys()) != 0 {
			t.Errorf("Set(%v): %d", c, e)
		}
	}
	for key := range 64 {
		set(t, x, [2]int{key, 1000 - key})
	}
	if x.Set(64, 5) != api.ErrFull || x.Set(64, -1) != api.ErrArg || x.Set(63, 5) != api.OK || len(x.Keys()) != 64 {
		t.Error("64 keys")
	}
	if !x.Cancel(10) || x.Set(64, 5) != api.OK || x.Set(10, 5) != api.ErrFull {
		t.Error("63 keys")
	}
}

// P10.1: a nil timer has nothing.
func TestP10_1Nil(t *testing.T) {
	var x *timer.Timer
	at, found := x.Find(0)
	key, tick, ok := x.Next()
	if x.Set(0, 0) != api.ErrNil || x.Set(-1, 0) != api.ErrNil || x.Cancel(0) || at != 0 || found || key != 0 || tick != 0 || ok || len(x.Due(math.MaxInt)) != 0 || len(x.Keys()) != 0 {
		t.Error("a nil timer tells something")
	}
}

// P10.2: what is next, and what is due.
func TestP10_2(t *testing.T) {
	x := timer.New()
	if key, at, ok := x.Next(); key != 0 || at != 0 || ok || len(x.Due(math.MaxInt)) != 0 {
		t.Error(key, at, ok)
	}
	set(t, x, [2]int{5, 9}, [2]int{3, 9}, [2]int{7, 2}, [2]int{5, 1})
	if key, at, ok := x.Next(); key != 5 || at != 1 || !ok {
		t.Error(key, at, ok)
	}
	if l := x.Due(0); len(l) != 0 || len(x.Due(math.MinInt)) != 0 {
		t.Error(l)
	}
	if l := x.Due(8); !slices.Equal(l, []int{5, 7}) {
		t.Error(l)
	}
	if key, at, ok := x.Next(); key != 3 || at != 9 || !ok {
		t.Error(key, at, ok)
	}
	set(t, x, [2]int{9, 9}, [2]int{1, 9}, [2]int{2, 10})
	if l := x.Due(9); !slices.Equal(l, []int{1, 3, 9}) || !slices.Equal(x.Keys(), []int{2}) {
		t.Error(l)
	}
	if _, ok := x.Find(3); ok || x.Cancel(3) {
		t.Error("what was due is there")
	}
}

// P10.3: each key is due once for each time that it is set, at its last tick, in order.
func TestP10_3(t *testing.T) {
	r := rand.New(rand.NewSource(10))
	x, model := timer.New(), map[int]int{}
	inOrder := func(most int) []int {
		var l []int
		for key, at := range model {
			if at <= most {
				l = append(l, key)
			}
		}
		slices.SortFunc(l, func(a, b int) int { return cmp.Or(cmp.Compare(model[a], model[b]), cmp.Compare(a, b)) })
		return l
	}
	for range 20000 {
		key, at := r.Intn(80), r.Intn(50)
		_, there := model[key]
		switch r.Intn(5) {
		case 0, 1, 2:
			full := !there && len(model) == 64
			if e := x.Set(key, at); (e == api.ErrFull) != full || e != api.OK && !full {
				t.Fatal(e)
			} else if e == api.OK {
				model[key] = at
			}
		case 3:
			if x.Cancel(key) != there {
				t.Fatal(key)
			}
			delete(model, key)
		default:
			if r.Intn(20) > 0 {
				at = r.Intn(3)
			}
			want := inOrder(at)
			if l := x.Due(at); !slices.Equal(l, want) {
				t.Fatal(l, want)
			}
			for _, key := range want {
				delete(model, key)
			}
		}
		all := inOrder(math.MaxInt)
		key, at, ok := x.Next()
		if !slices.Equal(x.Keys(), all) || ok != (len(all) > 0) || ok && (key != all[0] || at != model[key]) {
			t.Fatal(x.Keys(), all)
		}
	}
}
