package address

import (
	"iter"
	"strconv"
	"strings"
)

const (
	fourLength = 4  // of a host of Family4
	sixLength  = 16 // of a host of Family6
)

// number is what the numbers in a text stand for: octets of hosts, or groups and ports. What its type holds is as much as may be written.
type number interface {
	uint8 | uint16
}

// groups are the numbers of which the text of a host of 16 octets is made.
type groups [8]uint16

func isHost(host string) bool {
	return len(host) == fourLength || len(host) == sixLength
}

func hostText(host string) string {
	if len(host) == fourLength {
		return write([]uint8(host), ".", 10)
	}
	return groupsOf(host).text()
}

// write returns the text of numbers in a base, with a separator between them.
func write[N number](list []N, separator string, base int) string {
	parts := make([]string, len(list))
	for i, n := range list {
		parts[i] = strconv.FormatUint(uint64(n), base)
	}
	return strings.Join(parts, separator)
}

// eachGroup yields the number of each group of two octets, behind its place.
func eachGroup(host string) iter.Seq2[int, uint16] {
	return func(yield func(int, uint16) bool) {
		for i := range len(host) / 2 {
			if !yield(i, uint16(host[2*i])<<8|uint16(host[2*i+1])) {
				return
			}
		}
	}
}

// groupsOf returns the groups of a host. One of 4 octets has the first two only: the others stay 0.
func groupsOf(host string) groups {
	var g groups
	for i, n := range eachGroup(host) {
		g[i] = n
	}
	return g
}

// host returns the 16 octets whose groups g are.
func (g groups) host() string {
	octets := make([]byte, 0, sixLength)
	for _, n := range g {
		octets = append(octets, byte(n>>8), byte(n))
	}
	return string(octets)
}

// text returns the text of g, where a run of groups 0 may be left out.
func (g groups) text() string {
	first, behind := g.longestRun()
	if first == behind {
		return write(g[:], ":", 16)
	}
	return write(g[:first], ":", 16) + "::" + write(g[behind:], ":", 16)
}

// longestRun returns where the first one of the longest runs of groups 0 begins, and where it has ended. A single group 0 is no run.
func (g groups) longestRun() (first, behind int) {
	length := 0
	for i, n := range g {
		if n != 0 {
			length = 0
			continue
		}
		length++
		if length > 1 && length > behind-first {
			first, behind = i+1-length, i+1
		}
	}
	return first, behind
}
