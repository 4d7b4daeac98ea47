package curve

import (
	"math/big"
	"slices"
	"testing"
)

// power is 2^n.
func power(n uint) *big.Int {
	return new(big.Int).Lsh(big.NewInt(1), n)
}

// modulus is the chapter's p.
func modulus() *big.Int {
	return new(big.Int).Sub(power(255), big.NewInt(19))
}

// near is x and n.
func near(x *big.Int, n int64) *big.Int {
	return new(big.Int).Add(x, big.NewInt(n))
}

// bigOf is the number of s, with the first octet counting least.
func bigOf(s string) *big.Int {
	b := []byte(s)
	slices.Reverse(b)
	return new(big.Int).SetBytes(b)
}

// octetsOf are the 32 octets whose number is x.
func octetsOf(x *big.Int) string {
	b := x.FillBytes(make([]byte, 32))
	slices.Reverse(b)
	return string(b)
}

// sumOf is the sum of the limbs, each with what it counts.
func sumOf(n number) *big.Int {
	sum := new(big.Int)
	for i, limb := range n {
		sum.Add(sum, new(big.Int).Mul(power(uint(51*i)), new(big.Int).SetUint64(limb)))
	}
	return sum
}

// edges are the numbers of 32 octets at which something begins or ends: a limb, the modulus, the bits.
func edges() []*big.Int {
	var list []*big.Int
	for n := range int64(41) {
		list = append(list, big.NewInt(n), near(modulus(), n-22), near(power(255), -n-1))
	}
	for n := int64(-2); n <= 2; n++ {
		for i := range uint(5) {
			list = append(list, near(power(51*i+51), n))
		}
		list = append(list, near(power(128), n), near(power(254), n), near(new(big.Int).Rsh(modulus(), 1), n))
	}
	for seed := range 20 {
		list = append(list, new(big.Int).Mod(bigOf(text(32, seed)), power(255)))
	}
	return list
}

// rests are the rests of the edges.
func rests() []number {
	var list []number
	for _, x := range edges() {
		list = append(list, numberOf(octetsOf(x)))
	}
	return list
}

// isRestOf reports an error if n is not the rest of x, with its limbs.
func isRestOf(t *testing.T, what string, n number, x *big.Int) {
	t.Helper()
	if sumOf(n).Cmp(new(big.Int).Mod(x, modulus())) != 0 || slices.Max(n[:]) >= 1<<51 {
		t.Errorf("%s: %v is not the rest of %d", what, n, x)
	}
}

// P5.2
func TestNumberOf(t *testing.T) {
	for _, x := range edges() {
		low := new(big.Int).Mod(x, power(255))
		for _, s := range []string{octetsOf(low), octetsOf(new(big.Int).Add(low, power(255)))} {
			n := numberOf(s)
			isRestOf(t, "numberOf", n, low)
			if n.octets() != octetsOf(sumOf(n)) {
				t.Errorf("octets of %v: %q", n, n.octets())
			}
		}
	}
}

// P5.2
func TestSumsAndProductsOfRests(t *testing.T) {
	for _, x := range rests() {
		for _, y := range rests() {
			a, b := sumOf(x), sumOf(y)
			isRestOf(t, "plus", x.plus(y).rest(), new(big.Int).Add(a, b))
			isRestOf(t, "minus", x.minus(y).rest(), new(big.Int).Sub(a, b))
			isRestOf(t, "times", x.times(y), new(big.Int).Mul(a, b))
			for _, n := range []number{x.plus(y), x.minus(y), y.minus(x)} {
				if slices.Max(n[:]) >= 1<<53 {
					t.Errorf("%v and %v have a sum or a difference with the limbs %v", x, y, n)
				}
			}
		}
	}
}

// P5.2: the greatest limbs that sums and differences may have, and others.
func TestProductsOfGreatLimbs(t *testing.T) {
	limbs := []uint64{0, 1, 1<<51 - 1, 1 << 51, 1<<53 - 2, 1<<53 - 1}
	var list []number
	for _, x := range limbs {
		for _, y := range limbs {
			list = append(list, number{x, y, x, y, x}, number{x, x, x, x, y}, number{y, x, x, x, x})
		}
	}
	for _, x := range list {
		isRestOf(t, "rest", x.rest(), sumOf(x))
		for _, y := range list {
			isRestOf(t, "times", x.times(y), new(big.Int).Mul(sumOf(x), sumOf(y)))
		}
	}
	isRestOf(t, "rest", number{1<<64 - 1}.rest(), near(power(64), -1))
	most := number{1<<64 - 1, 1<<63 - 1, 1<<63 - 1, 1<<63 - 1, 1<<63 - 1}
	isRestOf(t, "rest", most.rest(), sumOf(most))
}

// P5.2: the quotient of a and b is a times b to the power of p - 2, so it is 0 if b is 0.
func TestQuotient(t *testing.T) {
	exponent := near(modulus(), -2)
	for i, x := range rests() {
		for _, y := range []number{{}, {1}, {9}, numberOf(text(32, i)), x} {
			want := new(big.Int).Exp(sumOf(y), exponent, modulus())
			isRestOf(t, "quotient", pair{x, y}.quotient(), want.Mul(want, sumOf(x)))
		}
	}
}
