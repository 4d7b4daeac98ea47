package stun

import (
	"slices"

	"tannoy/api"
	"tannoy/digest"
	"tannoy/octets"
	"tannoy/parity"
)

// Sizes of the values of guards.
const (
	codeSize   = 32
	fingerSize = 4
)

// fingerMask makes the fingerprint another number than the check of what is ahead of it.
const fingerMask = 0x5354554e

// guard is an attribute by which one sees whether anything ahead of it was changed: fill gives it the value that it has behind the octets ahead.
type guard struct {
	kind, size int
	fill       func(a *api.StunAttr, ahead string)
}

// integrity returns the guard that only those can fill who have the key.
func integrity(key string) guard {
	return guard{api.StunIntegrity, codeSize, func(a *api.StunAttr, ahead string) {
		// Neither the key nor a message is too long for a code.
		a.Value, _ = digest.Mac(key, ahead)
	}}
}

// fingerprint returns the guard that everybody can fill.
func fingerprint() guard {
	return guard{api.StunFinger, fingerSize, func(a *api.StunAttr, ahead string) {
		// A message is not too long for a check, and a check fits into 4 octets.
		check, _ := parity.Crc(api.CrcIeee, ahead)
		a.Value, _ = octets.Put(fingerSize, check^fingerMask)
	}}
}

// at returns the guard as it is at the place in m, behind the attributes that are ahead of it.
func (g guard) at(m message, place int) api.StunAttr {
	m.Attrs = m.Attrs[:place]
	a := api.StunAttr{Kind: g.kind}
	g.fill(&a, m.written(attrHead+g.size))
	return a
}

// behind returns m with the guard behind its attributes.
func (g guard) behind(m message) (api.Stun, api.Errno) {
	guarded := m.Stun
	guarded.Attrs = slices.Concat(m.Attrs, []api.StunAttr{g.at(m, len(m.Attrs))})
	if Check(guarded) != api.OK {
		return api.Stun{}, api.ErrLong
	}
	return guarded, api.OK
}

// check tells whether the attribute at the place in m is the guard that belongs there.
func (g guard) check(m message, place int) api.Errno {
	if m.Attrs[place] != g.at(m, place) {
		return api.ErrAuth
	}
	return api.OK
}
