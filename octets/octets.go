// Package octets is layer 1: see 01-octets.md.
package octets

import (
	"strings"

	"tannoy/api"
)

// Numbers of more octets would not fit into an int with its sign.
const maxOctets = 7

// sound is a reader that was checked: only verify makes one, so that what has one need not check again.
type sound struct {
	api.Reader
}

func verify(r api.Reader) (sound, api.Errno) {
	if r.At < 0 || r.At > len(r.S) {
		return sound{}, api.ErrArg
	}
	return sound{r}, api.OK
}

func (r sound) left() int {
	return len(r.S) - r.At
}

// read is the common part of Take and Uint, which differ in what they build of the next n octets.
func read[T any](r sound, n int, build func(octets string) T) (T, api.Reader, api.Errno) {
	if n > r.left() {
		var none T
		return none, api.Reader{}, api.ErrShort
	}
	end := r.At + n
	return build(r.S[r.At:end]), api.Reader{S: r.S, At: end}, api.OK
}

func isUnit(unit int) bool {
	return unit == 1 || unit == 2 || unit == 4 || unit == 8
}

// roundUp returns the least multiple of unit that is at least n.
func roundUp(n, unit int) int {
	return (n + unit - 1) / unit * unit
}

// Check returns OK if r is valid, and ErrArg otherwise.
func Check(r api.Reader) api.Errno {
	_, e := verify(r)
	return e
}

// Left returns the number of octets that are left.
func Left(r api.Reader) (int, api.Errno) {
	v, e := verify(r)
	if e != api.OK {
		return 0, e
	}
	return v.left(), api.OK
}

// Take returns the next n octets and the reader behind them.
func Take(r api.Reader, n int) (string, api.Reader, api.Errno) {
	v, e := verify(r)
	if e != api.OK || n < 0 {
		return "", api.Reader{}, api.ErrArg
	}
	return read(v, n, func(octets string) string {
		return octets
	})
}

// Uint returns the number of the next n octets and the reader behind them.
func Uint(r api.Reader, n int) (int, api.Reader, api.Errno) {
	v, e := verify(r)
	if e != api.OK || n < 1 || n > maxOctets {
		return 0, api.Reader{}, api.ErrArg
	}
	return read(v, n, func(octets string) int {
		value := 0
		for i := range len(octets) {
			value = value<<8 | int(octets[i])
		}
		return value
	})
}

// Skip returns the reader at the least multiple of unit that is not before r.
func Skip(r api.Reader, unit int) (api.Reader, api.Errno) {
	v, e := verify(r)
	if e != api.OK {
		return api.Reader{}, e
	}
	if !isUnit(unit) {
		return api.Reader{}, api.ErrArg
	}
	at := roundUp(v.At, unit)
	if at > len(v.S) {
		return api.Reader{}, api.ErrShort
	}
	return api.Reader{S: v.S, At: at}, api.OK
}

// Put returns the n octets of which value is the number.
func Put(n, value int) (string, api.Errno) {
	if n < 1 || n > maxOctets || value < 0 {
		return "", api.ErrArg
	}
	if value>>(8*n) != 0 {
		return "", api.ErrBig
	}
	out := make([]byte, n)
	for i := range n {
		out[n-1-i] = byte(value >> (8 * i))
	}
	return string(out), api.OK
}

// Pad returns s with octets 0 behind it up to a multiple of unit.
func Pad(s string, unit int) (string, api.Errno) {
	if !isUnit(unit) {
		return "", api.ErrArg
	}
	return s + strings.Repeat("\x00", roundUp(len(s), unit)-len(s)), api.OK
}
