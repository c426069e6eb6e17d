package words

import (
	"iter"
	"strconv"

	"wicketgate/api"
	"wicketgate/fault"
)

// end stands behind a line's last byte, where no byte is.
const end rune = -1

// list are the words that were read, and the bytes of the one that is being read.
type list struct {
	done []string
	word []byte
}

func (l *list) add(b rune) error {
	if len(l.word) == api.MaxWord {
		return fault.Of(api.ErrWord)
	}
	l.word = append(l.word, byte(b))
	return nil
}

func (l *list) finish() {
	l.done = append(l.done, string(l.word))
	l.word = l.word[:0]
}

// state takes a byte, and tells the state that takes the next one.
type state func(b rune) (state, error)

// move is what a byte does in a state.
type move func(r *reader, b rune) (state, error)

// reader goes through a line; what the bytes do that are no plain ones differs by where they stand.
type reader struct {
	list
	inGap    map[rune]move
	inBare   map[rune]move
	inQuoted map[rune]move
}

func newReader() *reader {
	return &reader{
		inGap: map[rune]move{
			blank:  (*reader).stay,
			end:    (*reader).stay,
			quote:  (*reader).openQuote,
			escape: (*reader).strayEscape,
		},
		inBare: map[rune]move{
			blank:  (*reader).leaveBare,
			end:    (*reader).leaveBare,
			quote:  (*reader).strayQuote,
			escape: (*reader).strayEscape,
		},
		inQuoted: map[rune]move{
			quote:  (*reader).closeQuote,
			escape: (*reader).openEscape,
			end:    (*reader).strayQuote,
		},
	}
}

// read stops at the first byte with which something is wrong.
func (r *reader) read(s string) error {
	var wrong error
	take, at := state(r.gap), 0
reading:
	for b := range bytesOf(s) {
		next, err := take(b)
		switch {
		case err != nil:
			wrong = fault.Within("byte "+strconv.Itoa(at), err)
			break reading
		default:
			take = next
			at++
		}
	}
	return wrong
}

// bytesOf goes through a line, up to its end, which is told as a byte of its own: all of its runes are bytes.
func bytesOf(s string) iter.Seq[rune] {
	return func(yield func(rune) bool) {
		for _, b := range s {
			if !yield(b) {
				return
			}
		}
		yield(end)
	}
}

// do makes the move of a byte, or reads a plain one, behind which the state plain is.
func (r *reader) do(moves map[rune]move, b rune, plain state) (state, error) {
	if m, ok := moves[b]; ok {
		return m(r, b)
	}
	return plain, r.add(b)
}

// gap is between words; a word too many is told ahead of whatever else is wrong with its first byte.
func (r *reader) gap(b rune) (state, error) {
	if b != blank && b != end && len(r.done) == api.MaxWords {
		return nil, fault.Of(api.ErrWords)
	}
	return r.do(r.inGap, b, r.bare)
}

func (r *reader) bare(b rune) (state, error) { return r.do(r.inBare, b, r.bare) }

func (r *reader) quoted(b rune) (state, error) { return r.do(r.inQuoted, b, r.quoted) }

func (r *reader) escaped(b rune) (state, error) {
	if b != quote && b != escape {
		return nil, fault.Of(api.ErrEscape)
	}
	return r.quoted, r.add(b)
}

// behind is right behind a quoted word, where just a blank, or the end, may stand.
func (r *reader) behind(b rune) (state, error) {
	if b != blank && b != end {
		return r.strayQuote(b)
	}
	return r.gap, nil
}

func (r *reader) stay(rune) (state, error) { return r.gap, nil }

func (r *reader) openQuote(rune) (state, error) { return r.quoted, nil }

func (r *reader) openEscape(rune) (state, error) { return r.escaped, nil }

func (r *reader) strayQuote(rune) (state, error) { return nil, fault.Of(api.ErrQuote) }

func (r *reader) strayEscape(rune) (state, error) { return nil, fault.Of(api.ErrEscape) }

func (r *reader) leaveBare(rune) (state, error) {
	r.finish()
	return r.gap, nil
}

func (r *reader) closeQuote(rune) (state, error) {
	r.finish()
	return r.behind, nil
}
