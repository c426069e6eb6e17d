package stream_test

import (
	"math"
	"math/rand"
	"slices"
	"testing"

	"wicketgate/api"
	"wicketgate/stream"
)

// moves are all that may happen, told once more: from where, what, to where.
var moves = map[[2]int]int{
	{api.Idle, api.EvOpen}: api.Asked, {api.Asked, api.EvAccept}: api.Up, {api.Asked, api.EvRefuse}: api.Broken, {api.Up, api.EvEndIn}: api.HalfIn, {api.Up, api.EvEndOut}: api.HalfOut,
	{api.HalfIn, api.EvEndOut}: api.Over, {api.HalfOut, api.EvEndIn}: api.Over,
	{api.Asked, api.EvReset}: api.Broken, {api.Up, api.EvReset}: api.Broken, {api.HalfIn, api.EvReset}: api.Broken, {api.HalfOut, api.EvReset}: api.Broken,
}

var strange = []int{math.MinInt, -1, 7, 8, 100, math.MaxInt}

// P14.1: what may happen, and nothing else.
func TestP14_1Next(t *testing.T) {
	for s := 0; s <= 6; s++ {
		for _, ev := range append([]int{0, 1, 2, 3, 4, 5, 6}, strange...) {
			to, may := moves[[2]int{s, ev}]
			n, e := stream.Next(s, ev)
			if may && (n != to || e != api.OK) || !may && (n != 0 || e != api.ErrEvent) {
				t.Errorf("Next(%d, %d): %d %d", s, ev, n, e)
			}
		}
	}
	for _, s := range strange {
		for _, ev := range []int{-1, 0, 1, 6, 9} {
			if n, e := stream.Next(s, ev); n != 0 || e != api.ErrArg {
				t.Errorf("Next(%d, %d): %d %d", s, ev, n, e)
			}
		}
	}
}

// P14.1: events one by one, up to the first one that may not happen.
func TestP14_1Run(t *testing.T) {
	for _, c := range []struct {
		s        int
		l        []int
		to, done int
	}{
		{api.Idle, []int{api.EvOpen, api.EvAccept, api.EvEndIn, api.EvEndIn}, api.HalfIn, 3}, {api.Idle, nil, api.Idle, 0}, {api.Idle, []int{api.EvAccept, api.EvOpen}, api.Idle, 0},
		{api.Idle, []int{api.EvOpen, api.EvAccept, api.EvEndOut, api.EvEndIn, api.EvReset}, api.Over, 4}, {api.Over, []int{api.EvReset}, api.Over, 0}, {api.Broken, []int{api.EvOpen}, api.Broken, 0}, {api.Up, []int{api.EvReset, api.EvReset}, api.Broken, 1},
		{api.Up, []int{99, api.EvReset}, api.Up, 0}, {api.Up, []int{math.MinInt}, api.Up, 0},
	} {
		if to, done, e := stream.Run(c.s, c.l); to != c.to || done != c.done || e != api.OK {
			t.Errorf("Run(%d, %v): %d %d %d", c.s, c.l, to, done, e)
		}
	}
	for _, s := range strange {
		if to, done, e := stream.Run(s, []int{api.EvOpen}); to != 0 || done != 0 || e != api.ErrArg {
			t.Errorf("Run(%d): %d %d %d", s, to, done, e)
		}
	}
}

// P14.2: which bytes may go on, and what is over.
func TestP14_2States(t *testing.T) {
	in, out, over := []int{api.Up, api.HalfOut}, []int{api.Up, api.HalfIn}, []int{api.Over, api.Broken}
	for _, s := range append([]int{0, 1, 2, 3, 4, 5, 6}, strange...) {
		if stream.In(s) != slices.Contains(in, s) || stream.Out(s) != slices.Contains(out, s) || stream.IsEnd(s) != slices.Contains(over, s) {
			t.Errorf("state %d: %t %t %t", s, stream.In(s), stream.Out(s), stream.IsEnd(s))
		}
	}
}

// P14.2: by how many events a state is reached.
func TestP14_2Least(t *testing.T) {
	const none = -1
	want := [7][7]int{
		{0, 1, 2, 3, 3, 4, 2}, {none, 0, 1, 2, 2, 3, 1}, {none, none, 0, 1, 1, 2, 1}, {none, none, none, 0, none, 1, 1}, {none, none, none, none, 0, 1, 1}, {none, none, none, none, none, 0, none}, {none, none, none, none, none, none, 0},
	}
	for from := range want {
		for to, n := range want[from] {
			if got, ok := stream.Least(from, to); ok != (n != none) || got != max(n, 0) {
				t.Errorf("Least(%d, %d): %d %t", from, to, got, ok)
			}
		}
	}
	for _, s := range strange {
		for _, c := range [][2]int{{s, s}, {0, s}, {s, 6}} {
			if n, ok := stream.Least(c[0], c[1]); n != 0 || ok {
				t.Errorf("Least(%v): %d %t", c, n, ok)
			}
		}
	}
}

// P14.3: at most four events happen from Idle on, and a side that ended never goes on again.
func TestP14_3(t *testing.T) {
	r := rand.New(rand.NewSource(14))
	for range 20000 {
		s, happened, in, out := api.Idle, 0, false, false
		endedIn, endedOut := false, false
		for range 30 {
			n, e := stream.Next(s, r.Intn(8))
			if e != api.OK {
				continue
			}
			if stream.IsEnd(s) {
				t.Fatal("something happens behind the end")
			}
			s = n
			happened++
			endedIn, endedOut = endedIn || in && !stream.In(s), endedOut || out && !stream.Out(s)
			in, out = stream.In(s), stream.Out(s)
			if endedIn && in || endedOut && out || stream.IsEnd(s) && (in || out) {
				t.Fatal("a side goes on again", s)
			}
		}
		if happened > 4 {
			t.Fatal(happened)
		}
	}
}
