package stream

import (
	"iter"
	"math/bits"
)

const (
	blockSize = 64
	wordSize  = 4
	rounds    = 10
)

// What stands at the beginning of the words of every block, and where the other parts begin.
const (
	constant     = "expand 32-byte k"
	keyPlace     = 4
	counterPlace = 12
	noncePlace   = 13
)

// words are those of a block.
type words [blockSize / wordSize]uint32

// places are those of the four words of a quarter round.
type places [4]int

// fill makes the words from the place on, which are 0 so far, those that s consists of.
func (w *words) fill(place int, s string) {
	for i := range len(s) {
		w[place+i/wordSize] |= uint32(s[i]) << (8 * (i % wordSize))
	}
}

// octets returns the octets that the words are written as.
func (w *words) octets() string {
	var out [blockSize]byte
	for i := range out {
		out[i] = byte(w[i/wordSize] >> (8 * (i % wordSize)))
	}
	return string(out[:])
}

func quarterRound(a, b, c, d uint32) (uint32, uint32, uint32, uint32) {
	a += b
	d = bits.RotateLeft32(d^a, 16)
	c += d
	b = bits.RotateLeft32(b^c, 12)
	a += b
	d = bits.RotateLeft32(d^a, 8)
	c += d
	b = bits.RotateLeft32(b^c, 7)
	return a, b, c, d
}

// quarterRounds makes a quarter round of the words at each of the places, in order.
func (w *words) quarterRounds(list ...places) {
	for _, p := range list {
		w[p[0]], w[p[1]], w[p[2]], w[p[3]] = quarterRound(w[p[0]], w[p[1]], w[p[2]], w[p[3]])
	}
}

// mixing is a block that is being made: its words as they are now, and those that were there at first.
type mixing struct {
	words
	first words
}

func (m *mixing) round() {
	m.quarterRounds(places{0, 4, 8, 12}, places{1, 5, 9, 13}, places{2, 6, 10, 14}, places{3, 7, 11, 15})
	m.quarterRounds(places{0, 5, 10, 15}, places{1, 6, 11, 12}, places{2, 7, 8, 13}, places{3, 4, 9, 14})
}

func (m *mixing) addFirst() {
	for i, word := range m.first {
		m.words[i] += word
	}
}

// begin returns the words that are there at first, of a key, a nonce and a counter that were checked.
func begin(key, nonce string, counter int) words {
	var first words
	first.fill(0, constant)
	first.fill(keyPlace, key)
	first[counterPlace] = uint32(counter)
	first.fill(noncePlace, nonce)
	return first
}

// block returns the block of the words that are there at first.
func block(first words) string {
	m := mixing{first, first}
	for range rounds {
		m.round()
	}
	m.addFirst()
	return m.octets()
}

// blocks yields the block of the first words, that of the next counter, and so on, as many as count tells. None of the counters may be beyond the greatest one: it would begin again at 0.
func blocks(first words, count int) iter.Seq[string] {
	return func(yield func(string) bool) {
		next := first
		for range count {
			if !yield(block(next)) {
				return
			}
			next[counterPlace]++
		}
	}
}
