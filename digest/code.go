package digest

import (
	"strings"

	"tannoy/api"
)

// The octets by which the key of the inner digest of a code is changed, and that of the outer one.
const (
	innerChange = 54
	outerChange = 92
)

// Derived octets are numbered with one octet.
const maxDerived = 255

// changed returns a block of a key of at most 64 octets, with octets 0 behind it, each of them changed by exclusive or.
func changed(key string, change byte) string {
	var block [blockSize]byte
	copy(block[:], key)
	for i := range block {
		block[i] ^= change
	}
	return string(block[:])
}

// code returns the code of s with the key; start is a digest of no octets.
func (start making) code(key, s string) string {
	if len(key) > blockSize {
		key = start.more(key).end()
	}
	inner := start.more(changed(key, innerChange)).more(s).end()
	return start.more(changed(key, outerChange)).more(inner).end()
}

// Mac returns the code of s with the key.
func Mac(key, s string) (string, api.Errno) {
	if isLong(key, s) {
		return "", api.ErrLong
	}
	return begin().code(key, s), api.OK
}

// Derive returns the first n derived octets of the secret, the salt and the label.
func Derive(secret, salt, label string, n int) (string, api.Errno) {
	if isLong(secret, salt, label) {
		return "", api.ErrLong
	}
	if n < 0 || n > maxDerived {
		return "", api.ErrArg
	}
	start := begin()
	key := start.code(salt, secret)
	var out strings.Builder
	last := ""
	for number := byte(1); out.Len() < n; number++ {
		last = start.code(key, last+label+string([]byte{number}))
		out.WriteString(last)
	}
	return out.String()[:n], api.OK
}
