package fifo_test

import (
	"math"
	"math/rand"
	"strings"
	"testing"

	"wicketgate/api"
	"wicketgate/fifo"
)

func made(t *testing.T, capacity int) *fifo.Fifo {
	t.Helper()
	f, e := fifo.New(capacity)
	if e != api.OK || f == nil {
		t.Fatalf("New(%d): %d", capacity, e)
	}
	return f
}

// P1.1: New's bounds.
func TestP1_1New(t *testing.T) {
	for _, n := range []int{1, 2, 4095, 4096} {
		f := made(t, n)
		if f.Len() != 0 || f.Room() != n || f.Peek(1) != "" {
			t.Errorf("New(%d): %d bytes, room %d", n, f.Len(), f.Room())
		}
	}
	for _, n := range []int{math.MinInt, -1, 0, 4097, math.MaxInt} {
		if f, e := fifo.New(n); f != nil || e != api.ErrArg {
			t.Errorf("New(%d): %v %d", n, f, e)
		}
	}
}

// P1.1: Push takes the first bytes that there is room for.
func TestP1_1Push(t *testing.T) {
	f := made(t, 4)
	for _, c := range []struct {
		s    string
		n    int
		all  string
		room int
	}{{"", 0, "", 4}, {"a\x00", 2, "a\x00", 2}, {"\xff", 1, "a\x00\xff", 1}, {"xyz", 1, "a\x00\xffx", 0}, {"q", 0, "a\x00\xffx", 0}} {
		if n := f.Push(c.s); n != c.n || f.Peek(math.MaxInt) != c.all || f.Room() != c.room || f.Len() != len(c.all) {
			t.Errorf("Push(%q): %d, %q, room %d", c.s, n, f.Peek(9), f.Room())
		}
	}
	g := made(t, 4096)
	if n := g.Push(strings.Repeat("ab", 3000)); n != 4096 || g.Peek(5000) != strings.Repeat("ab", 2048) {
		t.Errorf("a great push: %d", n)
	}
}

// P1.1: a nil queue has nothing.
func TestP1_1Nil(t *testing.T) {
	var f *fifo.Fifo
	if f.Push("abc") != 0 || f.Pop(3) != "" || f.Peek(3) != "" || f.Clear() != 0 || f.Len() != 0 || f.Room() != 0 {
		t.Error("a nil queue tells something")
	}
}

// P1.2: Peek leaves, Pop takes, Clear takes all.
func TestP1_2(t *testing.T) {
	f := made(t, 4)
	f.Push("abc")
	for _, n := range []int{math.MinInt, -1, 0} {
		if f.Peek(n) != "" || f.Pop(n) != "" || f.Len() != 3 {
			t.Errorf("%d bytes are some", n)
		}
	}
	if f.Peek(2) != "ab" || f.Peek(2) != "ab" || f.Peek(99) != "abc" {
		t.Errorf("Peek: %q", f.Peek(99))
	}
	if f.Pop(2) != "ab" || f.Peek(9) != "c" || f.Push("def") != 3 || f.Peek(3) != "cde" || f.Pop(math.MaxInt) != "cdef" || f.Pop(1) != "" {
		t.Errorf("Pop: %q", f.Peek(99))
	}
	f.Push("wxyz")
	if n := f.Clear(); n != 4 || f.Len() != 0 || f.Room() != 4 || f.Peek(9) != "" || f.Clear() != 0 || f.Push("hi") != 2 || f.Pop(9) != "hi" {
		t.Errorf("Clear: %d", n)
	}
}

// P1.3: whatever is done, bytes come out in the order in which they were taken.
func TestP1_3(t *testing.T) {
	r := rand.New(rand.NewSource(1))
	for _, capacity := range []int{1, 2, 3, 7, 64} {
		f := made(t, capacity)
		in, out := "", ""
		for i := range 4000 {
			if r.Intn(2) == 0 {
				s := make([]byte, r.Intn(capacity+3))
				r.Read(s)
				room := f.Room()
				n := f.Push(string(s))
				if n != min(len(s), room) {
					t.Fatalf("%d: took %d of %d, room %d", i, n, len(s), room)
				}
				in += string(s[:n])
			} else {
				n := r.Intn(capacity + 2)
				seen := f.Peek(n)
				got := f.Pop(n)
				if got != seen || len(got) != min(n, len(in)-len(out)) {
					t.Fatalf("%d: Peek %q, Pop %q", i, seen, got)
				}
				out += got
			}
			if out+f.Peek(capacity) != in || f.Len()+f.Room() != capacity || f.Len() != len(in)-len(out) {
				t.Fatalf("%d: the order is lost", i)
			}
		}
	}
}
