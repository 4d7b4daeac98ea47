package address

import (
	"strings"

	"tannoy/api"
)

// known is a host, of which is asked what kind of host it is.
type known string

// four returns the host of 4 octets that begins with some, and has octets 0 behind them.
func four(first ...byte) known {
	var octets [fourLength]byte
	copy(octets[:], first)
	return known(octets[:])
}

// six returns the host of 16 octets that begins with a group, and has groups 0 behind it.
func six(first uint16) known {
	return known(groups{first}.host())
}

// classOf returns the class of a host: the first one that fits, in the order of the chapter.
func classOf(host known) int {
	for _, row := range []struct {
		class int
		fits  func() bool
	}{
		{api.HostNone, host.isNone},
		{api.HostLoop, host.isLoop},
		{api.HostLink, host.isLink},
		{api.HostPrivate, host.isPrivate},
		{api.HostMany, host.isMany},
	} {
		if row.fits() {
			return row.class
		}
	}
	return api.HostOther
}

// within tells whether the first bits of host are those of prefix, which has so many at least.
func (host known) within(prefix known, bits int) bool {
	if len(host) != len(prefix) {
		return false
	}
	whole, rest := bits/8, bits%8
	if host[:whole] != prefix[:whole] {
		return false
	}
	return rest == 0 || (host[whole]^prefix[whole])>>(8-rest) == 0
}

func (host known) isNone() bool {
	return strings.Trim(string(host), "\x00") == ""
}

// isLoop may compare the groups of any host with those of ::1, since a host of 4 octets has no last group that could be 1.
func (host known) isLoop() bool {
	return host.within(four(127), 8) || groupsOf(string(host)) == groups{7: 1}
}

func (host known) isLink() bool {
	return host.within(four(169, 254), 16) || host.within(six(0xfe80), 10)
}

func (host known) isPrivate() bool {
	return host.within(four(10), 8) || host.within(four(172, 16), 12) || host.within(four(192, 168), 16) ||
		host.within(six(0xfc00), 7)
}

func (host known) isMany() bool {
	return host.within(four(224), 4) || host == four(255, 255, 255, 255) || host.within(six(0xff00), 8)
}
