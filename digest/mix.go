package digest

import (
	"iter"
	"math/bits"

	"tannoy/api"
	"tannoy/octets"
)

const (
	blockSize = 64
	wordSize  = 4
)

// blocks yields the full blocks of s; octets that do not fill one are left out.
func blocks(s string) iter.Seq[string] {
	return func(yield func(string) bool) {
		for end := blockSize; end <= len(s); end += blockSize {
			if !yield(s[end-blockSize : end]) {
				return
			}
		}
	}
}

func turned(x uint32, k int) uint32 {
	return bits.RotateLeft32(x, -k)
}

// spread returns the 64 words that are mixed in for a block.
func spread(block string) [64]uint32 {
	var w [64]uint32
	r := api.Reader{S: block}
	for t := range blockSize / wordSize {
		// A block has this many words, so none of them is short.
		var word int
		word, r, _ = octets.Uint(r, wordSize)
		w[t] = uint32(word)
	}
	for t := blockSize / wordSize; t < len(w); t++ {
		early, late := w[t-15], w[t-2]
		x := turned(early, 7) ^ turned(early, 18) ^ early>>3
		y := turned(late, 17) ^ turned(late, 19) ^ late>>10
		w[t] = w[t-16] + w[t-7] + x + y
	}
	return w
}

// step is one of the 64 steps of mixing; added is the sum of its constant and its word.
func step(s [8]uint32, added uint32) [8]uint32 {
	a, b, c, d, e, f, g := s[0], s[1], s[2], s[3], s[4], s[5], s[6]
	u := s[7] + (turned(e, 6) ^ turned(e, 11) ^ turned(e, 25)) + (e&f ^ ^e&g) + added
	v := (turned(a, 2) ^ turned(a, 13) ^ turned(a, 22)) + (a&b ^ a&c ^ b&c)
	return [8]uint32{u + v, a, b, c, d + u, e, f, g}
}

// mix returns the words h after the block was mixed in.
func mix(h [8]uint32, block string, constants *steps) [8]uint32 {
	s := h
	for t, word := range spread(block) {
		s = step(s, constants[t]+word)
	}
	for i := range h {
		h[i] += s[i]
	}
	return h
}
