package stun

import (
	"tannoy/api"
	"tannoy/octets"
)

// reader reads octets one after the other, and panics if they are malformed: only read recovers that.
type reader struct {
	api.Reader
}

// read returns what take reads in s. It need not be strict, since write then tells whether s is just what is written.
func read[T any](s string, take func(r *reader) T, write func(T) (string, api.Errno)) (result T, e api.Errno) {
	defer func() {
		if recover() != nil {
			var none T
			result, e = none, api.ErrForm
		}
	}()
	result = take(&reader{api.Reader{S: s}})
	if again, wrong := write(result); wrong != api.OK || again != s {
		panic(api.ErrForm)
	}
	return result, api.OK
}

// goOn goes on at next, unless there was an error on the way.
func (r *reader) goOn(next api.Reader, e api.Errno) {
	if e != api.OK {
		panic(e)
	}
	r.Reader = next
}

// number reads the number of n octets.
func (r *reader) number(n int) int {
	value, next, e := octets.Uint(r.Reader, n)
	r.goOn(next, e)
	return value
}

// take reads n octets.
func (r *reader) take(n int) string {
	s, next, e := octets.Take(r.Reader, n)
	r.goOn(next, e)
	return s
}

// rest reads all the octets that are left.
func (r *reader) rest() string {
	return r.take(len(r.S) - r.At)
}

// attributes yields the attributes that are left.
func (r *reader) attributes(yield func(a api.StunAttr) bool) {
	for r.At < len(r.S) {
		kind := r.number(2)
		value := r.take(r.number(2))
		r.goOn(octets.Skip(r.Reader, padUnit))
		if !yield(api.StunAttr{Kind: kind, Value: value}) {
			return
		}
	}
}

// message reads a message. Its length and its magic number tell nothing more.
func (r *reader) message() api.Stun {
	class, method := ofType(r.number(2))
	r.take(6)
	m := api.Stun{Class: class, Method: method, Id: r.take(idSize)}
	for a := range r.attributes {
		m.Attrs = append(m.Attrs, a)
	}
	return m
}

// saidLength returns the length that the octets of a message tell, of which there are 20 at least.
func saidLength(s string) int {
	length, _, _ := octets.Uint(api.Reader{S: s, At: 2}, 2)
	return length
}
