package scan_test

import (
	"strings"
	"testing"

	"wicketgate/scan"
)

func TestNumber(t *testing.T) {
	for _, c := range []struct {
		s    string
		most int
		n    int
		ok   bool
	}{
		{"0", 0, 0, true}, {"0", 255, 0, true}, {"7", 255, 7, true}, {"255", 255, 255, true}, {"1000000000000", 1000000000000, 1000000000000, true},
		{"", 255, 0, false}, {"00", 255, 0, false}, {"01", 255, 0, false}, {"256", 255, 0, false}, {"1", 0, 0, false}, {"1000000000001", 1000000000000, 0, false},
		{strings.Repeat("9", 99), 1000000000000, 0, false}, {"+1", 255, 0, false}, {"-1", 255, 0, false}, {" 1", 255, 0, false}, {"1 ", 255, 0, false}, {"1a", 255, 0, false}, {"\xff", 255, 0, false}, {"٣", 255, 0, false},
	} {
		if n, ok := scan.Number(c.s, c.most); n != c.n || ok != c.ok {
			t.Errorf("%q: %d %t", c.s, n, ok)
		}
	}
}

func TestText(t *testing.T) {
	x := scan.Text{Left: "12.034"}
	if x.Mark(".") || x.End() || x.Left != "12.034" {
		t.Error(x)
	}
	if n, ok := x.Number(99); n != 12 || !ok || x.Left != ".034" {
		t.Error(n, x)
	}
	if _, ok := x.Number(99); ok || !x.Mark(".") || x.Left != "034" {
		t.Error(x)
	}
	if _, ok := x.Number(99); ok || x.Left != "034" {
		t.Error("what is refused is taken", x)
	}
	if !x.Mark("034") || !x.End() {
		t.Error(x)
	}
}
