package parity

import (
	"tannoy/api"
)

// checkBits is the number of bits of a check, and of the numbers that become one.
const checkBits = 32

// constantOf returns the constant of the kind, and whether there is such a kind.
func constantOf(kind int) (uint32, bool) {
	switch kind {
	case api.CrcIeee:
		return 0xedb88320, true
	case api.CrcCast:
		return 0x82f63b78, true
	}
	return 0, false
}

// steps are the numbers that the octets become by eight steps.
type steps [256]uint32

// stepsWith returns the steps that are made with the constant.
func stepsWith(constant uint32) *steps {
	var table steps
	for bit := 1; bit < len(table); bit *= 2 {
		table[bit] = eightSteps(uint32(bit), constant)
		// What an exclusive or becomes is the exclusive or of what its parts become.
		for lower := 1; lower < bit; lower++ {
			table[bit+lower] = table[bit] ^ table[lower]
		}
	}
	return &table
}

// eightSteps makes eight steps of n, one after the other.
func eightSteps(n, constant uint32) uint32 {
	for range 8 {
		odd := n%2 == 1
		n /= 2
		if odd {
			n ^= constant
		}
	}
	return n
}

// after returns what n becomes by eight steps. Only its lowest octet decides where the constant is taken: the others just move to the right.
func (table *steps) after(n uint32) uint32 {
	return table[byte(n)] ^ n>>8
}

// checkBehind returns the check of any octets whose check is crc, with those of s behind them.
func (table *steps) checkBehind(crc uint32, s string) uint32 {
	// The bits of crc were turned around at its end: here they go on as they were before.
	n := ^crc
	for i := range len(s) {
		n = table.after(n ^ uint32(s[i]))
	}
	return ^n
}
