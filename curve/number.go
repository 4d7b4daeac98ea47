package curve

import (
	"math/bits"
)

// Numbers have 255 bits. A limb has so many of them that the product of two limbs, and sums of these, fit into 128 bits.
const (
	limbBits  = 51
	limbCount = 5
	limbMask  = 1<<limbBits - 1
)

// surplus is the rest of 2^255 divided by p: a limb above the last one would count 2^255, and so counts as much as this in the first one.
const surplus = 19

// number is the sum of its limbs, each of which counts 2^51 times as much as the one before it. It is a rest if it is less than p and its limbs are less than 2^51: then no other number with the same rest is equal to it.
type number [limbCount]uint64

// wide is a sum of products of limbs.
type wide struct {
	high, low uint64
}

func (w wide) plus(other wide) wide {
	low, carry := bits.Add64(w.low, other.low, 0)
	high, _ := bits.Add64(w.high, other.high, carry)
	return wide{high, low}
}

// cut returns the bits of w that fit into a limb, and the number of the others.
func (w wide) cut() (limb, over uint64) {
	return w.low & limbMask, w.high<<(64-limbBits) | w.low>>limbBits
}

// numberOf returns the rest of the number of 32 octets without its greatest bit.
func numberOf(s string) number {
	var n number
	for at, octet := range []byte(s) {
		bit := 8 * at
		n[bit/limbBits] |= uint64(octet) << (bit % limbBits)
	}
	// Of 256 bits only the greatest one does not fit, and it is left out.
	n.carry()
	return n.rest()
}

// carry makes all limbs less than 2^51, and takes away and returns what does not fit into them: the number of times that n has 2^255.
func (n *number) carry() uint64 {
	over := uint64(0)
	for i := range n {
		n[i] += over
		over = n[i] >> limbBits
		n[i] &= limbMask
	}
	return over
}

// rest returns the rest of n, of which the first limb may have 64 bits, and the others may have 63.
func (n number) rest() number {
	for over := n.carry(); over > 0; over = n.carry() {
		n[0] += surplus * over
	}
	// What is left is less than 2^255, but it may be p or more: then the surplus does not fit.
	next := n
	next[0] += surplus
	if next.carry() > 0 {
		return next
	}
	return n
}

// The sum and the difference of two rests are no rests. Their limbs are less than 2^53, so that times can take them.

func (n number) plus(other number) number {
	for i, limb := range other {
		n[i] += limb
	}
	return n
}

func (n number) minus(other number) number {
	// The limbs of 2p, which does not change the rest, are greater than those of a rest: so no limb becomes less than 0.
	n[0] += 2 * (1<<limbBits - surplus)
	for i := 1; i < limbCount; i++ {
		n[i] += 2 * limbMask
	}
	for i, limb := range other {
		n[i] -= limb
	}
	return n
}

// times returns the rest of the product of two numbers whose limbs are less than 2^53.
func (n number) times(other number) number {
	var sums [limbCount]wide
	for i, x := range n {
		for j, y := range other {
			place := i + j
			if place >= limbCount {
				place, y = place-limbCount, surplus*y
			}
			high, low := bits.Mul64(x, y)
			sums[place] = sums[place].plus(wide{high, low})
		}
	}
	var product number
	over := uint64(0)
	for i, sum := range sums {
		product[i], over = sum.plus(wide{low: over}).cut()
	}
	// The last sum has no surplus in it and is less than 2^109: so this is less than 2^63.
	product[0] += surplus * over
	return product.rest()
}

// octets returns the 32 octets whose number is n, which must be a rest.
func (n number) octets() string {
	out := make([]byte, 0, keySize)
	held, count := uint64(0), 0
	for _, limb := range n {
		held |= limb << count
		for count += limbBits; count >= 8; count -= 8 {
			out = append(out, byte(held))
			held >>= 8
		}
	}
	// The last octet has only 7 bits, so it is still held.
	return string(append(out, byte(held)))
}
