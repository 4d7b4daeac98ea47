package stun

import (
	"tannoy/address"
	"tannoy/api"
	"tannoy/octets"
	"tannoy/parity"
)

// The numbers that errors may have.
const (
	leastError = 300
	mostError  = 699
)

// portMask changes the ports of mixed values: it is the beginning of StunMagic.
const portMask = api.StunMagic >> 16

// mixed returns host changed by StunMagic and the Id, or a changed host as it was before.
func mixed(id, host string) string {
	magic, _ := octets.Put(4, api.StunMagic)
	with := magic + id
	changed, _ := parity.Xor([]string{host, with[:min(len(with), len(host))]})
	return changed
}

// Mixed returns the mixed value of a for the Id.
func Mixed(id string, a api.Addr) (string, api.Errno) {
	if len(id) != idSize || address.Check(a) != api.OK {
		return "", api.ErrArg
	}
	family, _ := address.Family(a.Host)
	var w writer
	w.number(2, family)
	w.number(2, a.Port^portMask)
	w.add(mixed(id, a.Host))
	return w.octets(), api.OK
}

// ReadMixed returns the address whose mixed value for the Id is value.
func ReadMixed(id, value string) (api.Addr, api.Errno) {
	if len(id) != idSize {
		return api.Addr{}, api.ErrArg
	}
	take := func(r *reader) api.Addr {
		// The family tells nothing that the number of octets does not.
		r.take(2)
		port := r.number(2) ^ portMask
		return api.Addr{Host: mixed(id, r.rest()), Port: port}
	}
	return read(value, take, func(a api.Addr) (string, api.Errno) {
		return Mixed(id, a)
	})
}

// failure is what the value of an error tells.
type failure struct {
	number int
	reason string
}

// Reason returns the value of an error.
func Reason(number int, reason string) (string, api.Errno) {
	if number < leastError || number > mostError {
		return "", api.ErrArg
	}
	if len(reason) > api.MaxReason {
		return "", api.ErrLong
	}
	var w writer
	w.number(3, number/100)
	w.number(1, number%100)
	w.add(reason)
	return w.octets(), api.OK
}

// ReadReason returns the number and the reason of the error whose value is value.
func ReadReason(value string) (number int, reason string, e api.Errno) {
	take := func(r *reader) failure {
		hundreds, ones := r.number(3), r.number(1)
		return failure{100*hundreds + ones, r.rest()}
	}
	f, e := read(value, take, func(f failure) (string, api.Errno) {
		return Reason(f.number, f.reason)
	})
	return f.number, f.reason, e
}
