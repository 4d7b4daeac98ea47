package seal

import (
	"iter"
)

const (
	keySize   = 32
	pieceSize = 16
)

// tagging is a tag that is being made: the number a is embedded, and the factor is r.
type tagging struct {
	number
	factor number
}

func (t *tagging) add(n number) {
	for i, limb := range n.limbs {
		t.limbs[i] += limb
	}
}

func (t *tagging) mix(piece string) {
	// The octet 1 keeps pieces apart that differ by octets 0 at their ends.
	t.add(numberOf(piece + "\x01"))
	t.number = t.times(t.factor)
}

// end returns the tag; last are the octets of s, which is added at the end.
func (t *tagging) end(last string) string {
	t.add(numberOf(last))
	// What settle takes away are multiples of 2^130, which do not change the rest divided by 2^128.
	t.settle()
	return t.low()
}

// factorOf returns r, of the first 16 octets of a key.
func factorOf(first string) number {
	out := []byte(first)
	for i := 3; i < len(out); i += 4 {
		out[i] &= 15
	}
	for i := 4; i < len(out); i += 4 {
		out[i] &= 252
	}
	return numberOf(string(out))
}

// pieces yields the pieces of s in order.
func pieces(s string) iter.Seq[string] {
	return func(yield func(string) bool) {
		for at := 0; at < len(s); at += pieceSize {
			if !yield(s[at:min(at+pieceSize, len(s))]) {
				return
			}
		}
	}
}

// tagOf returns the tag of s for a key of 32 octets. s may be longer than an argument of Tag, because the tag of a box is made of all its parts.
func tagOf(key, s string) string {
	t := tagging{factor: factorOf(key[:pieceSize])}
	for piece := range pieces(s) {
		t.mix(piece)
	}
	return t.end(key[pieceSize:])
}
