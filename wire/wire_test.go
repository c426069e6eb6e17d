package wire_test

import (
	"math"
	"math/rand"
	"slices"
	"strings"
	"testing"

	"wicketgate/api"
	"wicketgate/wire"
)

func bytesOf(n int) string { return strings.Repeat("x", n) }

// sizes are the least and the greatest length of each kind's data, and whether it is of a stream.
var sizes = []struct {
	kind, least, most int
	ofStream          bool
}{
	{api.Hello, 1, 64, false}, {api.Auth, 32, 32, false}, {api.Open, 1, 64, true}, {api.Data, 1, 512, true},
	{api.Window, 2, 2, true}, {api.Close, 0, 0, true}, {api.Reset, 0, 0, true}, {api.Ping, 0, 8, false},
}

// P3.1: what is right is encoded, what isn't is not.
func TestP3_1Right(t *testing.T) {
	for _, k := range sizes {
		for _, stream := range []int{math.MinInt, -1, 0, 1, 258, 65535, 65536, math.MaxInt} {
			for n := range 600 {
				f := api.Frame{Kind: k.kind, Stream: stream, Data: bytesOf(n)}
				want := n >= k.least && n <= k.most && (stream == 0 && !k.ofStream || stream >= 1 && stream <= 65535 && k.ofStream)
				s, e := wire.Encode(f)
				if wire.Right(f) != want || (e == api.OK) != want || !want && (s != "" || e != api.ErrFrame) {
					t.Fatalf("%d %d %d bytes: %t %q %d", k.kind, stream, n, wire.Right(f), s, e)
				}
			}
		}
	}
	for _, kind := range []int{math.MinInt, -1, 0, 9, 260, math.MaxInt} {
		for _, f := range []api.Frame{{Kind: kind}, {Kind: kind, Stream: 1}, {Kind: kind, Data: "xx"}} {
			if s, e := wire.Encode(f); wire.Right(f) || s != "" || e != api.ErrFrame {
				t.Errorf("%v: %q %d", f, s, e)
			}
		}
	}
}

// P3.1: a frame's bytes.
func TestP3_1Encode(t *testing.T) {
	for _, c := range []struct {
		f    api.Frame
		want string
	}{
		{api.Frame{Kind: api.Data, Stream: 258, Data: "hi"}, "\x04\x01\x02\x00\x02hi"},
		{api.Frame{Kind: api.Data, Stream: 65535, Data: bytesOf(512)}, "\x04\xff\xff\x02\x00" + bytesOf(512)},
		{api.Frame{Kind: api.Reset, Stream: 1}, "\x07\x00\x01\x00\x00"},
		{api.Frame{Kind: api.Ping}, "\x08\x00\x00\x00\x00"},
		{api.Frame{Kind: api.Window, Stream: 256, Data: "\x10\x00"}, "\x05\x01\x00\x00\x02\x10\x00"},
	} {
		if s, e := wire.Encode(c.f); s != c.want || e != api.OK {
			t.Errorf("%v: %q %d", c.f, s, e)
		}
	}
}

// P3.1: the error of taking one, in the order of the bytes.
func TestP3_1Take(t *testing.T) {
	good := "\x04\x01\x02\x00\x02hi"
	for _, c := range []struct {
		s  string
		at int
		e  api.Errno
	}{
		{good, -1, api.ErrArg}, {good, 8, api.ErrArg}, {good, math.MinInt, api.ErrArg}, {good, math.MaxInt, api.ErrArg}, {"", 1, api.ErrArg},
		{good, 7, api.ErrMore}, {"", 0, api.ErrMore},
		{"\x00", 0, api.ErrKind}, {"\x09", 0, api.ErrKind}, {"\xff\xff\xff\xff\xff", 0, api.ErrKind}, {good, 5, api.ErrKind},
		{good[:1], 0, api.ErrMore}, {good[:4], 0, api.ErrMore}, {"\x07\xff\xff\xff", 0, api.ErrMore},
		{"\x04\x00\x01\x02\x01", 0, api.ErrLong}, {"\x07\x00\x00\xff\xff", 0, api.ErrLong}, {"\x04\x00\x00\x02\x01" + bytesOf(600), 0, api.ErrLong},
		{good[:5], 0, api.ErrMore}, {good[:6], 0, api.ErrMore}, {"\x07\x00\x00\x02\x00" + bytesOf(511), 0, api.ErrMore},
		{"\x04\x00\x00\x00\x02hi", 0, api.ErrFrame}, {"\x07\x00\x01\x00\x01x", 0, api.ErrFrame}, {"\x08\x00\x01\x00\x00", 0, api.ErrFrame}, {"\x01\x00\x00\x00\x00", 0, api.ErrFrame},
	} {
		if f, n, e := wire.Take(c.s, c.at); e != c.e || n != 0 || f != (api.Frame{}) {
			t.Errorf("Take(%q, %d): %v %d %d, not %d", c.s, c.at, f, n, e, c.e)
		}
	}
	want := api.Frame{Kind: api.Data, Stream: 258, Data: "hi"}
	for _, c := range []struct {
		s      string
		at, to int
	}{{good, 0, 7}, {good + "\xff", 0, 7}, {"??" + good, 2, 9}} {
		if f, n, e := wire.Take(c.s, c.at); f != want || n != c.to || e != api.OK {
			t.Errorf("Take(%q, %d): %v %d %d", c.s, c.at, f, n, e)
		}
	}
}

// P3.2: all frames up to the first error, which is told unless more is to come.
func TestP3_2All(t *testing.T) {
	ping, reset := "\x08\x00\x00\x00\x01p", "\x07\x00\x02\x00\x00"
	a, b := api.Frame{Kind: api.Ping, Data: "p"}, api.Frame{Kind: api.Reset, Stream: 2}
	for _, c := range []struct {
		s    string
		want []api.Frame
		at   int
		e    api.Errno
	}{
		{"", nil, 0, 0}, {ping, []api.Frame{a}, 6, 0}, {ping + reset + ping, []api.Frame{a, b, a}, 17, 0},
		{ping + reset[:4], []api.Frame{a}, 6, 0}, {ping[:5], nil, 0, 0},
		{ping + "\x00", []api.Frame{a}, 6, api.ErrKind}, {"\x09" + ping, nil, 0, api.ErrKind},
		{reset + "\x04\x00\x00\xff\x00", []api.Frame{b}, 5, api.ErrLong}, {reset + ping + "\x07\x00\x00\x00\x00" + ping, []api.Frame{b, a}, 11, api.ErrFrame},
	} {
		if l, at, e := wire.All(c.s); !slices.Equal(l, c.want) || at != c.at || e != c.e {
			t.Errorf("All(%q): %v %d %d", c.s, l, at, e)
		}
	}
}

// P3.2: numbers of two bytes.
func TestP3_2Number(t *testing.T) {
	for n := range 65536 {
		s, e := wire.Bytes(n)
		if e != api.OK || len(s) != 2 || int(s[0])*256+int(s[1]) != n || wire.Number(s) != n {
			t.Fatalf("%d: %q %d", n, s, e)
		}
	}
	for _, n := range []int{-1, 65536, math.MinInt, math.MaxInt} {
		if s, e := wire.Bytes(n); s != "" || e != api.ErrArg {
			t.Errorf("%d: %q %d", n, s, e)
		}
	}
	for _, s := range []string{"", "\x01", "\x01\x02\x03"} {
		if wire.Number(s) != 0 {
			t.Errorf("%q: %d", s, wire.Number(s))
		}
	}
}

// P3.3: frames are taken from their bytes, whatever stands behind, and more is asked for of what is cut.
func TestP3_3(t *testing.T) {
	r := rand.New(rand.NewSource(3))
	for range 3000 {
		var l []api.Frame
		var ends []int
		s := ""
		for range r.Intn(6) {
			k := sizes[r.Intn(len(sizes))]
			data := make([]byte, k.least+r.Intn(k.most-k.least+1))
			r.Read(data)
			f := api.Frame{Kind: k.kind, Data: string(data)}
			if k.ofStream {
				f.Stream = 1 + r.Intn(65535)
			}
			one, e := wire.Encode(f)
			back, n, e2 := wire.Take("?"+one+"\xff", 1)
			if e != api.OK || e2 != api.OK || back != f || n != 1+len(one) {
				t.Fatalf("%v: %v %d %d %d", f, back, n, e, e2)
			}
			l, s = append(l, f), s+one
			ends = append(ends, len(s))
		}
		cut := r.Intn(len(s) + 1)
		whole := 0
		for whole < len(ends) && ends[whole] <= cut {
			whole++
		}
		at := 0
		if whole > 0 {
			at = ends[whole-1]
		}
		if got, n, e := wire.All(s[:cut]); !slices.Equal(got, l[:whole]) || n != at || e != api.OK {
			t.Fatalf("%q: %v %d %d", s[:cut], got, n, e)
		}
		if _, _, e := wire.Take(s[:cut], at); e != api.ErrMore {
			t.Fatalf("%q: %d", s[:cut], e)
		}
	}
}
