// Package scan reads texts from the left: numbers in decimal digits, and marks.
package scan

import (
	"iter"
	"strings"
)

// Text is what is left of a text.
type Text struct{ Left string }

// Number takes a number's digits, which stand without noughts ahead, if it is at most so great; else it takes nothing.
func (t *Text) Number(most int) (int, bool) {
	n, size := 0, 0
	for i, d := range digits(t.Left) {
		if i == 1 && n == 0 || d > most-10*n {
			return 0, false
		}
		n, size = 10*n+d, i+1
	}
	t.Left = t.Left[size:]
	return n, size > 0
}

// digits goes through the digits ahead of all else, by their places and what they are worth.
func digits(s string) iter.Seq2[int, int] {
	return func(yield func(int, int) bool) {
		for i, r := range s {
			if r < '0' || r > '9' || !yield(i, int(r-'0')) {
				return
			}
		}
	}
}

// Mark takes a mark, if it stands there.
func (t *Text) Mark(mark string) bool {
	rest, ok := strings.CutPrefix(t.Left, mark)
	t.Left = rest
	return ok
}

// End tells whether nothing is left.
func (t *Text) End() bool { return t.Left == "" }

// Number is that of a text that is nothing but its digits.
func Number(s string, most int) (int, bool) {
	t := Text{s}
	n, ok := t.Number(most)
	if !ok || !t.End() {
		return 0, false
	}
	return n, true
}
