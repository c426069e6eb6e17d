package sha_test

import (
	"crypto/sha256"
	"encoding/hex"
	"math/rand"
	"strings"
	"testing"

	"wicketgate/api"
	"wicketgate/sha"
)

// P4.1: sums that are known, and those of texts of all lengths about the blocks' ends.
func TestP4_1Sum(t *testing.T) {
	for _, c := range []struct{ s, want string }{
		{"", "e3b0c44298fc1c149afbf4c8996fb92427ae41e4649b934ca495991b7852b855"},
		{"abc", "ba7816bf8f01cfea414140de5dae2223b00361a396177a9cb410ff61f20015ad"},
		{"abcdbcdecdefdefgefghfghighijhijkijkljklmklmnlmnomnopnopq", "248d6a61d20638b8e5c026930c3e6039a33ce45964ff2167f6ecedd419db06c1"},
		{strings.Repeat("a", 1000000), "cdc76e5c9914fb9281a1c7e284d73e67f1809a48a497200e046d39ccc7112cd0"},
	} {
		if got := sha.Hex(sha.Sum(c.s)); got != c.want {
			t.Errorf("the sum of %d bytes: %s", len(c.s), got)
		}
	}
	r := rand.New(rand.NewSource(4))
	for n := range 300 {
		s := make([]byte, n)
		r.Read(s)
		want := sha256.Sum256(s)
		if got := sha.Sum(string(s)); got != string(want[:]) {
			t.Errorf("the sum of %x: %x", s, got)
		}
	}
}

// P4.1, P4.2: padding is as short as can be, and tells how many bits there were.
func TestP4_2Pad(t *testing.T) {
	for n := range 300 {
		s := strings.Repeat("q", n)
		p := sha.Pad(s)
		if len(p)%64 != 0 || len(p)-n < 9 || len(p)-n >= 9+64 || !strings.HasPrefix(p, s+"\x80") {
			t.Fatalf("%d bytes: %q", n, p)
		}
		if strings.Trim(p[n+1:len(p)-8], "\x00") != "" || p[len(p)-8:] != "\x00\x00\x00\x00\x00\x00"+string([]byte{byte(n * 8 >> 8), byte(n * 8)}) {
			t.Fatalf("%d bytes: %q", n, p[n:])
		}
	}
	n := 1 << 21
	if p := sha.Pad(strings.Repeat("q", n)); !strings.HasSuffix(p, "\x00\x00\x00\x00\x01\x00\x00\x00") || len(p) != n+64 {
		t.Errorf("%q", p[n:])
	}
}

// P4.1, P4.2: digits tell the text that they are of.
func TestP4_2Digits(t *testing.T) {
	for n := range 256 {
		s := string([]byte{byte(n), 'a', byte(255 - n)})
		h := sha.Hex(s)
		back, e := sha.Unhex(h)
		if h != hex.EncodeToString([]byte(s)) || back != s || e != api.OK {
			t.Fatalf("%q: %s %q %d", s, h, back, e)
		}
	}
	if s, e := sha.Unhex(""); s != "" || e != api.OK || sha.Hex("") != "" {
		t.Error("no digits", s, e)
	}
	if s, e := sha.Unhex("00ff"); s != "\x00\xff" || e != api.OK {
		t.Errorf("%q %d", s, e)
	}
	for _, h := range []string{"0", "000", "0G", "g0", "AB", "aB", "/0", ":0", "`0", " 0", "0x", "é", "\xff\xff", "\uFFFD0", "0\n", "ab cd "} {
		if s, e := sha.Unhex(h); s != "" || e != api.ErrHex {
			t.Errorf("%q: %q %d", h, s, e)
		}
	}
}
