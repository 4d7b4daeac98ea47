package octets

import (
	"tannoy/api"
)

// digits has the digit of each value at its index.
var digits = [16]byte{
	'0', '1', '2', '3', '4', '5', '6', '7',
	'8', '9', 'a', 'b', 'c', 'd', 'e', 'f',
}

// digitValue returns false if c is no digit; capital letters are none, so that every octet has one text.
func digitValue(c byte) (int, bool) {
	for value := range len(digits) {
		if digits[value] == c {
			return value, true
		}
	}
	return 0, false
}

// Hex returns the hexadecimal text of s.
func Hex(s string) string {
	out := make([]byte, 0, 2*len(s))
	for i := range len(s) {
		out = append(out, digits[s[i]>>4], digits[s[i]&15])
	}
	return string(out)
}

// Unhex returns the octets of a hexadecimal text.
func Unhex(text string) (string, api.Errno) {
	out := make([]byte, 0, len(text)/2)
reading:
	for i := 0; i+1 < len(text); i += 2 {
		octet := 0
		for _, c := range [2]byte{text[i], text[i+1]} {
			value, ok := digitValue(c)
			if !ok {
				break reading
			}
			octet = octet<<4 | value
		}
		out = append(out, byte(octet))
	}
	// Both a wrong digit and a digit without its other half leave octets unread.
	if 2*len(out) != len(text) {
		return "", api.ErrForm
	}
	return string(out), api.OK
}
