package stun

import (
	"tannoy/api"
	"tannoy/octets"
)

// buffer collects octets.
type buffer struct {
	collected []byte
}

func (b *buffer) add(s string) {
	b.collected = append(b.collected, s...)
}

// writer collects octets, and also those of numbers.
type writer struct {
	buffer
}

// number adds the n octets of value, which must fit into them.
func (w *writer) number(n, value int) {
	s, _ := octets.Put(n, value)
	w.add(s)
}

func (w *writer) octets() string {
	return string(w.collected)
}

// written returns the octets of m, in which the length is greater by more: what is ahead of a guard is written as if the guard were behind it.
func (m message) written(more int) string {
	var w writer
	number, add := w.number, w.add
	number(2, typeOf(m.Class, m.Method))
	number(2, m.length()+more)
	number(4, api.StunMagic)
	add(m.Id)
	for _, a := range m.Attrs {
		number(2, a.Kind)
		number(2, len(a.Value))
		// The unit is one of those that Pad knows.
		padded, _ := octets.Pad(a.Value, padUnit)
		add(padded)
	}
	return w.octets()
}
