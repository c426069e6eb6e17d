package words_test

import (
	"math/rand"
	"slices"
	"strings"
	"testing"

	"wicketgate/api"
	"wicketgate/words"
)

var (
	w64    = strings.Repeat("w", 64)
	w65    = strings.Repeat("w", 65)
	q64    = strings.Repeat(`\"`, 64)
	twelve = strings.Repeat("a ", 12)
)

// P2.1: lines and their words.
func TestP2_1Words(t *testing.T) {
	for _, c := range []struct {
		line string
		want []string
	}{
		{"", nil},
		{"    ", nil},
		{"a", []string{"a"}},
		{`  suspend "a b" x`, []string{"suspend", "a b", "x"}},
		{`a  b   `, []string{"a", "b"}},
		{`""`, []string{""}},
		{`"" "" `, []string{"", ""}},
		{`"a\"b" "\\" "c\\"`, []string{`a"b`, `\`, `c\`}},
		{`"\\\""`, []string{`\"`}},
		{`!~ #`, []string{"!~", "#"}},
		{w64, []string{w64}},
		{`"` + w64 + `"`, []string{w64}},
		{`"` + q64 + `"`, []string{strings.Repeat(`"`, 64)}},
		{twelve + "  ", strings.Fields(twelve)},
		{strings.Repeat(" ", 299) + "x", []string{"x"}},
	} {
		if l, e := words.Split(c.line); e != api.OK || !slices.Equal(l, c.want) {
			t.Errorf("Split(%q): %q %d", c.line, l, e)
		}
	}
}

// P2.1: the first error of a line, and which one is told where several are.
func TestP2_1Errors(t *testing.T) {
	for _, c := range []struct {
		line string
		want api.Errno
	}{
		{strings.Repeat(" ", 301), api.ErrLine},
		{strings.Repeat("\n", 301), api.ErrLine},
		{"a\x1fb", api.ErrByte},
		{"a\x7f", api.ErrByte},
		{"\xff", api.ErrByte},
		{"é", api.ErrByte},
		{"a\"\n", api.ErrByte},
		{`a"`, api.ErrQuote},
		{`a"b"`, api.ErrQuote},
		{`"a"b`, api.ErrQuote},
		{`"a""b"`, api.ErrQuote},
		{`"a"\`, api.ErrQuote},
		{`"`, api.ErrQuote},
		{`"abc `, api.ErrQuote},
		{`"abc\"`, api.ErrQuote},
		{`\`, api.ErrEscape},
		{`\"a"`, api.ErrEscape},
		{`a\b`, api.ErrEscape},
		{`a\`, api.ErrEscape},
		{`"\`, api.ErrEscape},
		{`"\a"`, api.ErrEscape},
		{`"\ "`, api.ErrEscape},
		{w65, api.ErrWord},
		{`"` + w65, api.ErrWord},
		{`"` + w64 + `\"`, api.ErrWord},
		{`"` + w64 + `\a`, api.ErrEscape},
		{`"` + w64, api.ErrQuote},
		{w64 + `"`, api.ErrQuote},
		{w64 + `\`, api.ErrEscape},
		{w65 + `"`, api.ErrWord},
		{twelve + "b", api.ErrWords},
		{twelve + `\`, api.ErrWords},
		{twelve + `"`, api.ErrWords},
		{strings.Repeat("a ", 11) + `"a"b`, api.ErrQuote},
		{strings.Repeat("a ", 11) + `a" b`, api.ErrQuote},
		{`a" \`, api.ErrQuote},
		{`\ a"`, api.ErrEscape},
	} {
		if l, e := words.Split(c.line); e != c.want || len(l) != 0 {
			t.Errorf("Split(%q): %q %d, not %d", c.line, l, e, c.want)
		}
	}
}

// P2.2: words, and how they are printed.
func TestP2_2Word(t *testing.T) {
	for _, c := range []struct{ s, want string }{
		{"a", "a"}, {"", `""`}, {"a b", `"a b"`}, {" ", `" "`}, {`"`, `"\""`}, {`\`, `"\\"`}, {`a\"b`, `"a\\\"b"`}, {"!~", "!~"}, {w64, w64},
	} {
		if p, e := words.Word(c.s); p != c.want || e != api.OK || !words.Right(c.s) {
			t.Errorf("Word(%q): %s %d", c.s, p, e)
		}
	}
	for _, c := range []struct {
		s    string
		want api.Errno
	}{{w65, api.ErrWord}, {w65 + "\n", api.ErrWord}, {"\x1f", api.ErrByte}, {"a\x7f", api.ErrByte}, {"é", api.ErrByte}, {"\xff", api.ErrByte}, {"\x00", api.ErrByte}} {
		if p, e := words.Word(c.s); p != "" || e != c.want || words.Right(c.s) {
			t.Errorf("Word(%q): %q %d", c.s, p, e)
		}
	}
}

// P2.2: lines that are printed.
func TestP2_2Print(t *testing.T) {
	for _, c := range []struct {
		l    []string
		want string
		e    api.Errno
	}{
		{nil, "", 0},
		{[]string{""}, `""`, 0},
		{[]string{"a", "b c", ""}, `a "b c" ""`, 0},
		{strings.Fields(twelve), strings.TrimSpace(twelve), 0},
		{append(strings.Fields(twelve), "b"), "", api.ErrWords},
		{append(strings.Fields(twelve), w65), "", api.ErrWords},
		{[]string{"a", "\n", w65}, "", api.ErrByte},
		{[]string{"a", w65, "\n"}, "", api.ErrWord},
		{[]string{w64, w64, w64, w64, strings.Repeat("w", 40)}, strings.Repeat(w64+" ", 4) + strings.Repeat("w", 40), 0},
		{[]string{w64, w64, w64, w64, strings.Repeat("w", 41)}, "", api.ErrLine},
		{[]string{strings.Repeat(`\`, 64), strings.Repeat(`\`, 64), strings.Repeat(`\`, 64)}, "", api.ErrLine},
	} {
		if p, e := words.Print(c.l); p != c.want || e != c.e {
			t.Errorf("Print(%q): %q %d", c.l, p, e)
		}
	}
}

// P2.3: words are split from the line that is printed of them, and the other way round.
func TestP2_3(t *testing.T) {
	r := rand.New(rand.NewSource(2))
	bytes := " \"\\ab~!"
	text := func(n int) string {
		s := make([]byte, r.Intn(n))
		for i := range s {
			s[i] = bytes[r.Intn(len(bytes))]
		}
		return string(s)
	}
	split := 0
	for range 20000 {
		l := make([]string, r.Intn(13))
		for i := range l {
			l[i] = text(12)
		}
		if line, e := words.Print(l); e == api.OK {
			if m, e := words.Split(line); e != api.OK || !slices.Equal(l, m) {
				t.Fatalf("%q: %q %d", l, m, e)
			}
		}
		l, e := words.Split(text(12))
		if e != api.OK {
			continue
		}
		split++
		line, _ := words.Print(l)
		if m, e := words.Split(line); e != api.OK || !slices.Equal(l, m) {
			t.Fatalf("%q: %q %d", l, m, e)
		}
	}
	if split < 1000 {
		t.Errorf("just %d lines were split", split)
	}
}
