package seal

// A number is made of limbs of so many bits that the products of two numbers' limbs, and sums of these, fit into 64 bits.
const (
	limbBits  = 26
	limbCount = 5
	limbMask  = 1<<limbBits - 1
)

// surplus is the rest of 2^130 divided by 2^130 - 5: a limb above the last one would count 2^130, and so counts as much as this in the first one.
const surplus = 5

// number is the sum of its limbs, each of which counts 2^26 times as much as the one before it.
type number struct {
	limbs [limbCount]uint64
}

// numberOf returns the number of s, which must be less than 2^130.
func numberOf(s string) number {
	var n number
	for i := range len(s) {
		bit := 8 * i
		n.limbs[bit/limbBits] |= uint64(s[i]) << (bit % limbBits)
	}
	n.settle()
	return n
}

// settle makes all limbs less than 2^26, and takes away and returns what does not fit into them: the number of times that n has 2^130.
func (n *number) settle() uint64 {
	over := uint64(0)
	for i := range n.limbs {
		n.limbs[i] += over
		over = n.limbs[i] >> limbBits
		n.limbs[i] &= limbMask
	}
	return over
}

// rest returns the rest of n divided by 2^130 - 5.
func (n number) rest() number {
	for over := n.settle(); over > 0; over = n.settle() {
		n.limbs[0] += surplus * over
	}
	// What is left is less than 2^130, but it may be 2^130 - 5 or more: then 5 more do not fit.
	next := n
	next.limbs[0] += surplus
	if next.settle() > 0 {
		return next
	}
	return n
}

// times returns the rest of the product divided by 2^130 - 5. The factor must be settled; n may be the sum of two numbers that are.
func (n number) times(factor number) number {
	var product number
	for i, x := range n.limbs {
		for j, y := range factor.limbs {
			place, part := i+j, x*y
			if place >= limbCount {
				place, part = place-limbCount, surplus*part
			}
			product.limbs[place] += part
		}
	}
	return product.rest()
}

// low returns the 16 octets of the rest of n divided by 2^128. All limbs of n must be settled.
func (n number) low() string {
	out := make([]byte, 0, pieceSize)
	held, bits := uint64(0), 0
	for _, limb := range n.limbs {
		held |= limb << bits
		for bits += limbBits; bits >= 8; bits -= 8 {
			out = append(out, byte(held))
			held >>= 8
		}
	}
	// Two bits are still held: what they count are multiples of 2^128.
	return string(out)
}
