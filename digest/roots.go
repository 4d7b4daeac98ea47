package digest

import (
	"math/bits"
)

// starts are the words from which every digest begins; steps has the constant of each step of mixing.
type (
	starts [8]uint32
	steps  [64]uint32
)

// No root that is looked for is 8 or more, so in 2^32nds each one has at most these bits.
const rootBits = 3 + 32

func isPrime(n uint64) bool {
	for d := uint64(2); d*d <= n; d++ {
		if n%d == 0 {
			return false
		}
	}
	return n > 1
}

func primeAfter(n uint64) uint64 {
	n++
	for !isPrime(n) {
		n++
	}
	return n
}

// lastBelow returns the greatest number of 2^32nds that is below the root of a prime. As such a root is no fraction, this is the root rounded down.
func lastBelow(prime uint64, below func(x, prime uint64) bool) uint64 {
	x := uint64(0)
	for i := range rootBits {
		if more := x | 1<<(rootBits-1-i); below(more, prime) {
			x = more
		}
	}
	return x
}

// fractions returns the fractional parts of the roots of the first primes, one for each word of T; below tells whether x 2^32nds are less than the root.
func fractions[T starts | steps](below func(x, prime uint64) bool) T {
	var words T
	prime := uint64(1)
	for i := range len(words) {
		prime = primeAfter(prime)
		// The conversion drops the whole part of the root.
		words[i] = uint32(lastBelow(prime, below))
	}
	return words
}

// Both closures compare the power of x with the prime's 2^64 or 2^96 fold, whose lower 64 bits are 0: so those of the power do not count.

func squareRoots() starts {
	return fractions[starts](func(x, prime uint64) bool {
		high, _ := bits.Mul64(x, x)
		return high < prime
	})
}

func cubeRoots() steps {
	return fractions[steps](func(x, prime uint64) bool {
		high, low := bits.Mul64(x, x)
		carry, _ := bits.Mul64(low, x)
		return high*x+carry < prime<<32
	})
}
