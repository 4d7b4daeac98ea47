package address

import (
	"strings"
)

// digits returns a function that tells what a digit is worth in a base.
func digits(base int) func(byte) (int, bool) {
	all := "0123456789abcdef"[:base]
	return func(digit byte) (int, bool) {
		worth := strings.IndexByte(all, digit)
		return worth, worth >= 0
	}
}

// read puts the numbers of a text into places, up to the first wrong part, and returns how many there are, and whether each part of the text, between separators, is a number that has a place.
func read[N number](places []N, text, separator string, base int) (count int, right bool) {
	worth := digits(base)
reading:
	for part := range strings.SplitSeq(text, separator) {
		right = false
		if count == len(places) || part == "" || part[0] == '0' && part != "0" {
			break
		}
		n := 0
		for i := range len(part) {
			digit, ok := worth(part[i])
			n = n*base + digit
			if !ok || n > int(^N(0)) {
				break reading
			}
		}
		places[count] = N(n)
		count, right = count+1, true
	}
	return count, right
}

func readPort(text string) (int, bool) {
	var port [1]uint16
	_, right := read(port[:], text, ":", 10)
	return int(port[0]), right
}

// readFour returns the host of 4 octets whose text is text.
func readFour(text string) (string, bool) {
	var octets [fourLength]uint8
	count, right := read(octets[:], text, ".", 10)
	return string(octets[:]), right && count == fourLength
}

// readSix returns the host of 16 octets whose text is text. Written again, the groups show whether the text was right: just that run may be left out which the writer leaves out.
func readSix(text string) (string, bool) {
	before, behind, _ := strings.Cut(text, "::")
	var g, last groups
	read(g[:], before, ":", 16)
	count, _ := read(last[:], behind, ":", 16)
	copy(g[len(g)-count:], last[:count])
	return g.host(), g.text() == text
}
