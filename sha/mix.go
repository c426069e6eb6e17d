package sha

import "math/bits"

// word is a number of 32 bits, whose sums go round.
type word uint32

// state are the numbers a to h.
type state [8]word

// beginning is from the square roots of the first eight primes, roots from the cube roots of the first 64.
var beginning = state{
	0x6a09e667, 0xbb67ae85, 0x3c6ef372, 0xa54ff53a, 0x510e527f, 0x9b05688c, 0x1f83d9ab, 0x5be0cd19,
}

var roots = [64]word{
	0x428a2f98, 0x71374491, 0xb5c0fbcf, 0xe9b5dba5, 0x3956c25b, 0x59f111f1, 0x923f82a4, 0xab1c5ed5,
	0xd807aa98, 0x12835b01, 0x243185be, 0x550c7dc3, 0x72be5d74, 0x80deb1fe, 0x9bdc06a7, 0xc19bf174,
	0xe49b69c1, 0xefbe4786, 0x0fc19dc6, 0x240ca1cc, 0x2de92c6f, 0x4a7484aa, 0x5cb0a9dc, 0x76f988da,
	0x983e5152, 0xa831c66d, 0xb00327c8, 0xbf597fc7, 0xc6e00bf3, 0xd5a79147, 0x06ca6351, 0x14292967,
	0x27b70a85, 0x2e1b2138, 0x4d2c6dfc, 0x53380d13, 0x650a7354, 0x766a0abb, 0x81c2c92e, 0x92722c85,
	0xa2bfe8a1, 0xa81a664b, 0xc24b8b70, 0xc76c51a3, 0xd192e819, 0xd6990624, 0xf40e3585, 0x106aa070,
	0x19a4c116, 0x1e376c08, 0x2748774c, 0x34b0bcb5, 0x391c0cb3, 0x4ed8aa4a, 0x5b9cca4f, 0x682e6ff3,
	0x748f82ee, 0x78a5636f, 0x84c87814, 0x8cc70208, 0x90befffa, 0xa4506ceb, 0xbef9a3f7, 0xc67178f2,
}

// total is the sum of some.
func total(l ...word) word {
	sum := word(0)
	for _, x := range l {
		sum += x
	}
	return sum
}

// spun is a word's rotations to the right, put together by exclusive or.
func (x word) spun(by ...int) word {
	out := word(0)
	for _, n := range by {
		out ^= word(bits.RotateLeft32(uint32(x), -n))
	}
	return out
}

func (x word) near() word { return x.spun(7, 18) ^ x>>3 }

func (x word) far() word { return x.spun(17, 19) ^ x>>10 }

func (x word) first() word { return x.spun(2, 13, 22) }

func (x word) fifth() word { return x.spun(6, 11, 25) }

// schedule are a block's words, and those that follow from them.
func schedule(block string) [64]word {
	mixes := [2]func(word) word{word.near, word.far}
	var w [64]word
	for i := range w {
		if i < 16 {
			b := block[4*i : 4*i+4]
			w[i] = word(b[0])<<24 | word(b[1])<<16 | word(b[2])<<8 | word(b[3])
			continue
		}
		w[i] = total(w[i-16], mixes[0](w[i-15]), w[i-7], mixes[1](w[i-2]))
	}
	return w
}

// round is one of the 64 of a block.
func (s *state) round(root word, w word) {
	a, b, c, d, e, f, g, h := s[0], s[1], s[2], s[3], s[4], s[5], s[6], s[7]
	t := total(h, e.fifth(), e&f^^e&g, root, w)
	u := total(a.first(), a&b^a&c^b&c)
	*s = state{t + u, a, b, c, d + t, e, f, g}
}

// join puts each number together with another state's.
func (s *state) join(other state) {
	for i, x := range other {
		s[i] += x
	}
}

// text are a state's numbers, the greatest part of each first.
func (s *state) text() string {
	out := make([]byte, 0, 4*len(s))
	for _, x := range s {
		out = append(out, byte(x>>24), byte(x>>16), byte(x>>8), byte(x))
	}
	return string(out)
}

// summer mixes a text into its state.
type summer struct{ state }

func (m *summer) mix(s string) {
	if m.state == (state{}) {
		m.state = beginning
	}
mixing:
	for block := range blocks(s) {
		w := schedule(block)
		turned := m.state
		round := turned.round
		for i := 0; ; i++ {
			if i == len(roots) {
				m.join(turned)
				continue mixing
			}
			round(roots[i], w[i])
		}
	}
}
