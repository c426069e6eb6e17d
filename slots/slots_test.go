package slots_test

import (
	"math"
	"math/rand"
	"slices"
	"testing"

	"wicketgate/api"
	"wicketgate/slots"
)

func clone(s api.Slots) api.Slots {
	return api.Slots{Gens: slices.Clone(s.Gens), Used: slices.Clone(s.Used), Free: slices.Clone(s.Free)}
}

func empty(s api.Slots) bool { return s.Gens == nil && s.Used == nil && s.Free == nil }

var wrongs = []api.Slots{
	{}, {Gens: []int{0}}, {Used: []bool{true}}, {Gens: []int{0, 0}, Used: []bool{true}}, {Gens: []int{0}, Used: []bool{true, true}}, {Gens: []int{-1}, Used: []bool{true}}, {Gens: []int{1000000001}, Used: []bool{true}},
	{Gens: []int{0}, Used: []bool{false}}, {Gens: []int{0}, Used: []bool{true}, Free: []int{0}}, {Gens: []int{0}, Used: []bool{false}, Free: []int{0, 0}}, {Gens: []int{0}, Used: []bool{false}, Free: []int{1}},
	{Gens: []int{0}, Used: []bool{false}, Free: []int{-1}}, {Gens: []int{0, 0}, Used: []bool{false, false}, Free: []int{0, 0}}, {Gens: []int{0, 0}, Used: []bool{false, false}, Free: []int{1}},
	{Gens: []int{0, 0}, Used: []bool{false, false}, Free: []int{1, math.MaxInt}}, {Gens: []int{0, 0}, Used: []bool{true, false}, Free: []int{math.MinInt}}, {Gens: []int{0, 0}, Used: []bool{true, false}, Free: []int{1, 0}},
	{Gens: make([]int, 65), Used: slices.Repeat([]bool{true}, 65)}, {Gens: []int{1, 1}, Used: []bool{true, false}, Free: []int{0}},
}

// P9.1: new slots.
func TestP9_1New(t *testing.T) {
	for _, n := range []int{1, 2, 64} {
		s, e := slots.New(n)
		if e != api.OK || len(s.Gens) != n || len(s.Used) != n || len(s.Free) != n || !slots.Right(s) || len(slots.All(s)) != 0 {
			t.Errorf("New(%d): %v %d", n, s, e)
		}
		for i := range n {
			if s.Gens[i] != 0 || s.Used[i] || s.Free[i] != n-1-i {
				t.Errorf("New(%d): %v", n, s)
			}
		}
	}
	for _, n := range []int{0, -1, 65, math.MinInt, math.MaxInt} {
		if s, e := slots.New(n); e != api.ErrArg || !empty(s) {
			t.Errorf("New(%d): %v %d", n, s, e)
		}
	}
}

// P9.1: slots that are right, and handles that are valid.
func TestP9_1Right(t *testing.T) {
	right := api.Slots{Gens: []int{7, 0, 1000000000, 3}, Used: []bool{true, true, false, false}, Free: []int{2, 3}}
	if !slots.Right(right) || !slots.Right(api.Slots{Gens: make([]int, 64), Used: slices.Repeat([]bool{true}, 64)}) || !slots.Right(api.Slots{Gens: []int{0}, Used: []bool{true}, Free: []int{}}) {
		t.Error("Right")
	}
	if l := slots.All(right); !slices.Equal(l, []api.Handle{{Slot: 0, Gen: 7}, {Slot: 1, Gen: 0}}) {
		t.Error(l)
	}
	for _, c := range []struct {
		h    api.Handle
		want bool
	}{{api.Handle{Slot: 0, Gen: 7}, true}, {api.Handle{Slot: 1}, true}, {api.Handle{Slot: 0, Gen: 6}, false}, {api.Handle{Slot: 0, Gen: 8}, false}, {api.Handle{Slot: 3, Gen: 3}, false}, {api.Handle{Slot: 4}, false}, {api.Handle{Slot: -1}, false}, {api.Handle{Slot: math.MinInt, Gen: math.MaxInt}, false}} {
		if slots.Valid(right, c.h) != c.want {
			t.Errorf("Valid(%v)", c.h)
		}
	}
	for _, w := range wrongs {
		for _, h := range []api.Handle{{}, {Gen: -1}, {Gen: 1000000001}, {Gen: 1}} {
			if slots.Right(w) || slots.Valid(w, h) || len(slots.All(w)) != 0 {
				t.Errorf("%v: %t %v", w, slots.Right(w), slots.All(w))
			}
		}
		if s, h, e := slots.Take(w); e != api.ErrSlots || !empty(s) || h != (api.Handle{}) {
			t.Errorf("Take(%v): %v %v %d", w, s, h, e)
		}
		if s, e := slots.Give(w, api.Handle{}); e != api.ErrSlots || !empty(s) {
			t.Errorf("Give(%v): %v %d", w, s, e)
		}
	}
}

// P9.1: any two slots may be held against each other.
func TestP9_1Same(t *testing.T) {
	a := api.Slots{Gens: []int{1, 2}, Used: []bool{true, false}, Free: []int{1}}
	if !slots.Same(a, clone(a)) || !slots.Same(api.Slots{}, api.Slots{Gens: []int{}, Used: []bool{}, Free: []int{}}) {
		t.Error("the same are not")
	}
	for _, b := range []api.Slots{{}, {Gens: []int{1, 3}, Used: a.Used, Free: a.Free}, {Gens: a.Gens, Used: []bool{true, true}, Free: a.Free}, {Gens: a.Gens, Used: a.Used, Free: []int{0}}, {Gens: a.Gens, Used: a.Used}, {Gens: []int{1}, Used: a.Used, Free: a.Free}, {Gens: a.Gens, Used: []bool{true}, Free: a.Free}} {
		if slots.Same(a, b) || slots.Same(b, a) {
			t.Errorf("%v is the same", b)
		}
	}
}

// P9.2: slots are taken from the end of Free, and given back there.
func TestP9_2(t *testing.T) {
	s, _ := slots.New(2)
	s1, a, e1 := slots.Take(s)
	s2, b, e2 := slots.Take(s1)
	if e1 != api.OK || e2 != api.OK || a != (api.Handle{Slot: 0, Gen: 1}) || b != (api.Handle{Slot: 1, Gen: 1}) {
		t.Fatal(a, b, e1, e2)
	}
	if x, h, e := slots.Take(s2); e != api.ErrFull || !empty(x) || h != (api.Handle{}) {
		t.Error(x, h, e)
	}
	s3, e := slots.Give(s2, a)
	if e != api.OK || !slots.Same(s3, api.Slots{Gens: []int{1, 1}, Used: []bool{false, true}, Free: []int{0}}) {
		t.Error(s3, e)
	}
	s4, e := slots.Give(s3, b)
	if e != api.OK || !slices.Equal(s4.Free, []int{0, 1}) {
		t.Error(s4, e)
	}
	if _, h, e := slots.Take(s4); h != (api.Handle{Slot: 1, Gen: 2}) || e != api.OK {
		t.Error(h, e)
	}
	for _, h := range []api.Handle{{Slot: 0, Gen: 1}, {Slot: 1, Gen: 2}, {Slot: 2, Gen: 1}, {Slot: -1}, {Slot: math.MaxInt}} {
		if x, e := slots.Give(s3, h); e != api.ErrHandle || !empty(x) {
			t.Errorf("Give(%v): %v %d", h, x, e)
		}
	}
	old := api.Slots{Gens: []int{0, 1000000000}, Used: []bool{false, false}, Free: []int{0, 1}}
	if x, h, e := slots.Take(old); e != api.ErrFull || !empty(x) || h != (api.Handle{}) {
		t.Error(x, h, e)
	}
	old.Free = []int{1, 0}
	if x, h, e := slots.Take(old); e != api.OK || h != (api.Handle{Slot: 0, Gen: 1}) || !slices.Equal(x.Free, []int{1}) {
		t.Error(x, h, e)
	}
}

// R3: what is handed in stays, with its spare room, and what is answered shares nothing with it.
func TestP9_2Memory(t *testing.T) {
	s := api.Slots{Gens: []int{5, 5, 5}, Used: []bool{true, false, false}, Free: append(make([]int, 0, 9), 2, 1)}
	before := clone(s)
	a, _, _ := slots.Take(s)
	b, _ := slots.Give(s, api.Handle{Slot: 0, Gen: 5})
	for _, x := range []api.Slots{a, b} {
		x.Gens[0], x.Used[0] = 99, !x.Used[0]
		x.Free[0] = 77
		_ = append(x.Free, 1, 2, 3)
	}
	if !slots.Same(s, before) || s.Free[:3][2] != 0 {
		t.Error(s, s.Free[:9])
	}
}

// P9.3: a handle that is given back is never valid again; others stay as they are.
func TestP9_3(t *testing.T) {
	r := rand.New(rand.NewSource(9))
	s, _ := slots.New(5)
	live, dead := map[api.Handle]bool{}, map[api.Handle]bool{}
	for range 3000 {
		if r.Intn(2) == 0 {
			x, h, e := slots.Take(s)
			if (e == api.ErrFull) != (len(live) == 5) || e == api.OK && (slots.Valid(s, h) || dead[h]) {
				t.Fatal(s, h, e)
			}
			if e == api.OK {
				s = x
				live[h] = true
			}
		} else if all := slots.All(s); len(all) > 0 {
			h := all[r.Intn(len(all))]
			x, e := slots.Give(s, h)
			if e != api.OK {
				t.Fatal(s, h, e)
			}
			s = x
			delete(live, h)
			dead[h] = true
		}
		if !slots.Right(s) || len(slots.All(s)) != len(live) || !slices.IsSortedFunc(slots.All(s), func(a, b api.Handle) int { return a.Slot - b.Slot }) {
			t.Fatal(s)
		}
		for h := range live {
			if !slots.Valid(s, h) {
				t.Fatal(s, h)
			}
		}
		for h := range dead {
			if slots.Valid(s, h) {
				t.Fatal(s, h)
			}
		}
	}
}
