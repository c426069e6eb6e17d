package mac_test

import (
	"crypto/hmac"
	"crypto/sha256"
	"math"
	"math/rand"
	"strconv"
	"strings"
	"testing"

	"wicketgate/api"
	"wicketgate/mac"
	"wicketgate/sha"
)

func hmacOf(key, s string) string {
	h := hmac.New(sha256.New, []byte(key))
	h.Write([]byte(s))
	return string(h.Sum(nil))
}

// P5.1: keys, and HMACs with them.
func TestP5_1(t *testing.T) {
	if m, e := mac.Mac("key", "The quick brown fox jumps over the lazy dog"); sha.Hex(m) != "f7bc83f430538424b13298e6aa6fb143ef4d59a14946175997479dbc2d1a3cd8" || e != api.OK {
		t.Errorf("%x %d", m, e)
	}
	for n := 1; n <= 64; n++ {
		key := strings.Repeat("\xab", n)
		if m, e := mac.Mac(key, "text"); !mac.Right(key) || m != hmacOf(key, "text") || e != api.OK {
			t.Errorf("a key of %d: %x %d", n, m, e)
		}
	}
	if m, e := mac.Mac("\x00", ""); m != hmacOf("\x00", "") || e != api.OK {
		t.Errorf("%x %d", m, e)
	}
	for _, key := range []string{"", strings.Repeat("k", 65), strings.Repeat("k", 5000)} {
		if m, e := mac.Mac(key, "text"); mac.Right(key) || m != "" || e != api.ErrKey {
			t.Errorf("a key of %d: %x %d", len(key), m, e)
		}
	}
}

// P5.1: texts that are the same.
func TestP5_1Same(t *testing.T) {
	l := []string{"", "a", "b", "ab", "ba", "aa", "abc", "\x00", "a\x00", strings.Repeat("x", 256), strings.Repeat("x", 257), "\xff", "é"}
	for i, a := range l {
		for k, b := range l {
			if mac.Same(a, b) != (i == k) {
				t.Errorf("Same(%q, %q)", a, b)
			}
		}
	}
}

// P5.2: challenges.
func TestP5_2Challenge(t *testing.T) {
	for _, c := range [][2]int{{0, 0}, {3, 17}, {2147483647, 0}, {0, 2147483647}} {
		want := sha256.Sum256([]byte("challenge " + strconv.Itoa(c[0]) + " " + strconv.Itoa(c[1])))
		if s, e := mac.Challenge(c[0], c[1]); s != string(want[:]) || e != api.OK {
			t.Errorf("%v: %x %d", c, s, e)
		}
	}
	for _, n := range []int{-1, 2147483648, math.MinInt, math.MaxInt} {
		for _, c := range [][2]int{{n, 0}, {0, n}} {
			if s, e := mac.Challenge(c[0], c[1]); s != "" || e != api.ErrArg {
				t.Errorf("%v: %x %d", c, s, e)
			}
		}
	}
}

// P5.2: answers; a wrong key is told ahead of a wrong challenge.
func TestP5_2Answer(t *testing.T) {
	c, _ := mac.Challenge(1, 2)
	for _, name := range []string{"", "acme", strings.Repeat("n", 100)} {
		if a, e := mac.Answer("key", c, name); a != hmacOf("key", c+name) || e != api.OK {
			t.Errorf("%q: %x %d", name, a, e)
		}
	}
	for _, x := range []struct {
		key, challenge string
		e              api.Errno
	}{
		{"", c, api.ErrKey}, {strings.Repeat("k", 65), c, api.ErrKey}, {"", "", api.ErrKey},
		{"k", "", api.ErrArg}, {"k", c[:31], api.ErrArg}, {"k", c + "x", api.ErrArg},
	} {
		if a, e := mac.Answer(x.key, x.challenge, "acme"); a != "" || e != x.e {
			t.Errorf("%q %q: %x %d", x.key, x.challenge, a, e)
		}
	}
}

// P5.3: bytes 0 behind a key say nothing, and an answer is an HMAC.
func TestP5_3(t *testing.T) {
	r := rand.New(rand.NewSource(5))
	for range 500 {
		k := make([]byte, 1+r.Intn(64))
		s := make([]byte, r.Intn(200))
		r.Read(k)
		r.Read(s)
		m, e := mac.Mac(string(k), string(s))
		if m != hmacOf(string(k), string(s)) || e != api.OK {
			t.Fatalf("%x %x: %x %d", k, s, m, e)
		}
		if p, e := mac.Mac(string(k)+strings.Repeat("\x00", r.Intn(65-len(k))), string(s)); p != m || e != api.OK {
			t.Fatalf("%x %x: %x %d", k, s, p, e)
		}
		c, _ := mac.Challenge(r.Intn(1000), r.Intn(1000))
		a, _ := mac.Answer(string(k), c, string(s))
		if m, _ := mac.Mac(string(k), c+string(s)); a != m {
			t.Fatalf("%x %x: %x", k, s, a)
		}
	}
}
