package stun

import (
	"slices"

	"tannoy/api"
)

// Sizes, and the greatest numbers that fit into their places.
const (
	idSize    = 12
	headSize  = 20 // the octets ahead of the attributes
	attrHead  = 4  // the octets ahead of a value
	padUnit   = 4
	maxMethod = 4095
	maxKind   = 65535
)

// leastOptional is the least kind that need not be understood.
const leastOptional = 32768

// message is a message that was checked: only verify makes one, so that what has one need not check again.
type message struct {
	api.Stun
}

func verify(m api.Stun) (message, api.Errno) {
	headIsRight := m.Class >= api.StunAsk && m.Class <= api.StunError &&
		m.Method >= 0 && m.Method <= maxMethod && len(m.Id) == idSize
	// The attributes are counted first: the length of too many values that are too long is of no interest.
	if !headIsRight || len(m.Attrs) > api.MaxStunAttrs || slices.ContainsFunc(m.Attrs, isWrong) {
		return message{}, api.ErrStun
	}
	if v := (message{m}); headSize+v.length() <= api.MaxPacket {
		return v, api.OK
	}
	return message{}, api.ErrStun
}

// verifyWith also checks the key that comes with m.
func verifyWith(m api.Stun, key string) (message, api.Errno) {
	v, e := verify(m)
	if e == api.OK && len(key) > api.MaxInput {
		return message{}, api.ErrLong
	}
	return v, e
}

func isWrong(a api.StunAttr) bool {
	return a.Kind < 0 || a.Kind > maxKind || len(a.Value) > api.MaxStunValue
}

// length returns the number of the octets behind the first 20.
func (m message) length() int {
	length := 0
	for _, a := range m.Attrs {
		length += attrHead + (len(a.Value)+padUnit-1)/padUnit*padUnit
	}
	return length
}

// kinds yields the kind of each attribute.
func (m message) kinds(yield func(kind int) bool) {
	for _, a := range m.Attrs {
		if !yield(a.Kind) {
			return
		}
	}
}

// first returns the place of the first attribute that has one of the kinds.
func (m message) first(kinds ...int) (int, bool) {
	place := 0
	for kind := range m.kinds {
		if slices.Contains(kinds, kind) {
			return place, true
		}
		place++
	}
	return 0, false
}

// knownKinds returns the kinds that must be understood, and are: a map of its own for each caller.
func knownKinds() map[int]bool {
	return map[int]bool{
		api.StunMapped:    true,
		api.StunUser:      true,
		api.StunIntegrity: true,
		api.StunErrorCode: true,
		api.StunUnknown:   true,
		api.StunChannel:   true,
		api.StunLifetime:  true,
		api.StunPeer:      true,
		api.StunData:      true,
		api.StunRealm:     true,
		api.StunNonce:     true,
		api.StunRelayed:   true,
		api.StunTransport: true,
		api.StunXor:       true,
		api.StunPriority:  true,
		api.StunUse:       true,
	}
}

// typeOf returns the type of a message: the bits of its class stand between those of its method.
func typeOf(class, method int) int {
	return method>>7<<9 | class>>1<<8 | (method>>4&7)<<5 | (class&1)<<4 | method&15
}

// ofType returns the class and the method of a type. If it has more than 14 bits, no method is as great.
func ofType(t int) (class, method int) {
	return (t>>8&1)<<1 | t>>4&1, t>>9<<7 | (t>>5&7)<<4 | t&15
}
