package octets

import (
	"tannoy/api"
)

func isSerial(x, bits int) bool {
	return x >= 0 && x < 1<<bits
}

// Ahead returns the lead of x over y among the serial numbers of so many bits.
func Ahead(x, y, bits int) (int, api.Errno) {
	// The number of bits is checked first: without it nothing can be said of x and y.
	if bits < 1 || bits > 32 || !isSerial(x, bits) || !isSerial(y, bits) {
		return 0, api.ErrArg
	}
	all := 1 << bits
	lead := (x - y) & (all - 1)
	if lead >= all/2 {
		lead -= all
	}
	return lead, api.OK
}

// Newer returns whether x is newer than y.
func Newer(x, y, bits int) (bool, api.Errno) {
	lead, e := Ahead(x, y, bits)
	return lead > 0, e
}
