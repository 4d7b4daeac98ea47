package candidate

import (
	"iter"
	"strconv"
	"strings"

	"tannoy/address"
	"tannoy/api"
)

// separator stands between the parts of a text.
const separator = " "

// The places of the parts in a text.
const (
	foundationPlace = iota
	componentPlace
	priorityPlace
	addrPlace
	kindPlace
	basePlace
)

// Text returns the text of c.
func Text(c api.Candidate) (string, api.Errno) {
	if e := Check(c); e != api.OK {
		return "", e
	}
	// The addresses of a valid candidate have texts.
	addr, _ := address.Text(c.Addr)
	parts := []string{c.Foundation, strconv.Itoa(c.Component), strconv.Itoa(c.Priority), addr, words[c.Kind]}
	if c.Base != c.Addr {
		base, _ := address.Text(c.Base)
		parts = append(parts, base)
	}
	return strings.Join(parts, separator), api.OK
}

// Parse returns the candidate whose text is text.
func Parse(text string) (api.Candidate, api.Errno) {
	c := read(text)
	if again, e := Text(c); e != api.OK || again != text {
		return api.Candidate{}, api.ErrForm
	}
	return c, api.OK
}

// read returns the candidate that the parts of a text tell. It need not be strict: written again, the candidate shows whether the text was right.
func read(text string) api.Candidate {
	var c api.Candidate
	for place, part := range eachPart(text) {
		switch place {
		case foundationPlace:
			c.Foundation = part
		case componentPlace:
			c.Component = valueOf(part, numberOf)
		case priorityPlace:
			c.Priority = valueOf(part, numberOf)
		case addrPlace:
			c.Addr = valueOf(part, address.Parse)
			c.Base = c.Addr
		case kindPlace:
			c.Kind = valueOf(part, kindOf)
		case basePlace:
			c.Base = valueOf(part, address.Parse)
		default:
			// No candidate has more parts.
			return api.Candidate{}
		}
	}
	return c
}

// eachPart yields the parts of a text, behind their places.
func eachPart(text string) iter.Seq2[int, string] {
	return func(yield func(int, string) bool) {
		place := 0
		for part := range strings.SplitSeq(text, separator) {
			if !yield(place, part) {
				return
			}
			place++
		}
	}
}

// valueOf returns what read finds in a part: the zero value, which no valid candidate has, if the part is wrong.
func valueOf[T any](part string, read func(part string) (T, api.Errno)) T {
	value, _ := read(part)
	return value
}

// numberOf returns the number of a part.
func numberOf(part string) (int, api.Errno) {
	n, wrong := strconv.Atoi(part)
	if wrong != nil {
		return 0, api.ErrForm
	}
	return n, api.OK
}
