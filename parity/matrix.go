package parity

import (
	"iter"
)

// effect is what becomes of a number by steps, or by octets 0. That of an exclusive or is the exclusive or of those of its parts.
type effect func(n uint32) uint32

// matrix is an effect written down: what becomes of each bit alone.
type matrix [checkBits]uint32

func matrixOf(e effect) matrix {
	var m matrix
	for bit := range m {
		m[bit] = e(1 << bit)
	}
	return m
}

// apply returns what becomes of n.
func (m matrix) apply(n uint32) uint32 {
	sum := uint32(0)
	for _, column := range m {
		if n%2 == 1 {
			sum ^= column
		}
		n /= 2
	}
	return sum
}

// twice returns the matrix of having the effect of m two times.
func (m matrix) twice() matrix {
	var out matrix
	for bit, column := range m {
		out[bit] = m.apply(column)
	}
	return out
}

// powers yields the effects of having that of m 1, 2, 4, 8 times, and so on.
func (m matrix) powers() iter.Seq[effect] {
	return func(yield func(effect) bool) {
		for yield(m.apply) {
			m = m.twice()
		}
	}
}

// afterZeros returns what a becomes by n octets 0, each of which makes eight steps and nothing else. It needs no more effects than n has binary digits.
func afterZeros(table *steps, a uint32, n int) uint32 {
	for power := range matrixOf(table.after).powers() {
		if n == 0 {
			break
		}
		if n%2 == 1 {
			a = power(a)
		}
		n /= 2
	}
	return a
}
