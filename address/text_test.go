package address

import (
	"fmt"
	"math"
	"net/netip"
	"strings"
	"testing"

	"tannoy/api"
)

// octetsOf returns the octets of groups.
func octetsOf(groups ...int) string {
	var b []byte
	for _, n := range groups {
		b = append(b, byte(n>>8), byte(n))
	}
	return string(b)
}

// text returns n octets of many values, which are not those of another seed.
func text(n, seed int) string {
	b := make([]byte, n)
	x := uint32(2*seed + 1)
	for i := range b {
		x = x*1664525 + 1013904223
		b[i] = byte(x >> 24)
	}
	return string(b)
}

func zeros(n int) string {
	return strings.Repeat("\x00", n)
}

func full(n int) string {
	return strings.Repeat("\xff", n)
}

// noHosts are octets that are not as many as those of a host.
func noHosts() []string {
	list := []string{full(3), full(5), full(15), full(17), text(1<<20, 1), "::1", "127.0.0.1"}
	for n := range 70 {
		if n != 4 && n != 16 {
			list = append(list, zeros(n), text(n, n))
		}
	}
	return list
}

func wrongPorts() []int {
	return []int{math.MinInt, -1 << 32, -65536, -2, -1, 65536, 65537, 1 << 17, 1 << 32, 1<<32 + 80, math.MaxInt}
}

func somePorts() []int {
	return []int{0, 1, 9, 10, 80, 99, 100, 255, 256, 999, 1000, 4096, 9999, 10000, 32767, 32768, 65534, 65535}
}

// hosts4 are hosts of 4 octets, with all octets in each place.
func hosts4() []string {
	var list []string
	for n := range 256 {
		for at := range 4 {
			for _, b := range [][]byte{make([]byte, 4), []byte(full(4)), []byte(text(4, n))} {
				b[at] = byte(n)
				list = append(list, string(b))
			}
		}
	}
	return list
}

// hosts6 are hosts of 16 octets: with groups 0 in all places in which they may be, and others of all lengths behind or between them.
func hosts6() []string {
	values := []int{1, 0xf, 0x10, 0xab, 0xff, 0x100, 0xcde, 0xfff, 0x1000, 0xa000, 0xa0b0, 0xff00, 0xffff}
	var list []string
	for zero := range 256 {
		for shift := range values {
			g := make([]int, 8)
			for i := range g {
				if zero>>i%2 == 0 {
					g[i] = values[(shift+i)%len(values)]
				}
			}
			list = append(list, octetsOf(g...))
		}
	}
	for n := range 200 {
		list = append(list, text(16, n))
	}
	return list
}

// hostTextBySearch is the chapter's text of a host: the first one of the longest runs is found by looking at all places for all lengths, the longest ones first.
func hostTextBySearch(host string) string {
	if len(host) == 4 {
		return fmt.Sprintf("%d.%d.%d.%d", host[0], host[1], host[2], host[3])
	}
	var parts []string
	for i := 0; i < 16; i += 2 {
		parts = append(parts, fmt.Sprintf("%x", int(host[i])*256+int(host[i+1])))
	}
	for length := 8; length > 1; length-- {
		for at := 0; at+length <= 8; at++ {
			if strings.Join(parts[at:at+length], "") == strings.Repeat("0", length) {
				return strings.Join(parts[:at], ":") + "::" + strings.Join(parts[at+length:], ":")
			}
		}
	}
	return strings.Join(parts, ":")
}

func addrTextBySearch(a api.Addr) string {
	if len(a.Host) == 4 {
		return fmt.Sprintf("%s:%d", hostTextBySearch(a.Host), a.Port)
	}
	return fmt.Sprintf("[%s]:%d", hostTextBySearch(a.Host), a.Port)
}

// libraryText is the library's text of a host. There is none if the library writes the host as one of 4 octets in 16.
func libraryText(host string) (string, bool) {
	ip, ok := netip.AddrFromSlice([]byte(host))
	return ip.String(), ok && !ip.Is4In6()
}

// P7.2
func TestKnownHostTexts(t *testing.T) {
	for _, x := range []struct{ host, text string }{
		{"\x00\x00\x00\x00", "0.0.0.0"},
		{"\xff\xff\xff\xff", "255.255.255.255"},
		{"\xc0\xa8\x00\x01", "192.168.0.1"},
		{"\x01\x0a\x63\x64", "1.10.99.100"},
		{octetsOf(0x2001, 0xdb8, 0, 0, 1, 0, 0, 1), "2001:db8::1:0:0:1"},
		{octetsOf(0, 0, 1, 0, 0, 0, 1, 1), "0:0:1::1:1"},
		{octetsOf(1, 0, 2, 0, 3, 0, 4, 0), "1:0:2:0:3:0:4:0"},
		{octetsOf(0, 0, 0, 0, 0, 0, 0, 0), "::"},
		{octetsOf(1, 0, 0, 0, 0, 0, 0, 0), "1::"},
		{octetsOf(0, 0, 0, 0, 0, 0, 0, 1), "::1"},
		{octetsOf(0, 1, 1, 1, 1, 1, 1, 1), "0:1:1:1:1:1:1:1"},
		{octetsOf(1, 1, 1, 1, 1, 1, 1, 0), "1:1:1:1:1:1:1:0"},
		{octetsOf(0, 0, 1, 1, 1, 1, 1, 1), "::1:1:1:1:1:1"},
		{octetsOf(1, 1, 1, 1, 1, 1, 0, 0), "1:1:1:1:1:1::"},
		{octetsOf(1, 0, 0, 0, 0, 0, 0, 1), "1::1"},
		{octetsOf(0, 1, 0, 0, 0, 1, 0, 0), "0:1::1:0:0"},
		{octetsOf(0, 0, 0, 1, 0, 0, 0, 0), "0:0:0:1::"},
		{octetsOf(0, 0, 0, 1, 1, 0, 0, 0), "::1:1:0:0:0"},
		{octetsOf(0, 0, 1, 0, 0, 1, 0, 0), "::1:0:0:1:0:0"},
		{octetsOf(0, 0, 0, 0, 0, 0xffff, 0x0102, 0x0304), "::ffff:102:304"},
		{octetsOf(0, 0, 0, 0, 0, 0, 0x7f00, 1), "::7f00:1"},
		{octetsOf(0xabcd, 0xef01, 0x2345, 0x6789, 0xabc, 0xde, 0xf, 0x10), "abcd:ef01:2345:6789:abc:de:f:10"},
		{full(16), "ffff:ffff:ffff:ffff:ffff:ffff:ffff:ffff"},
	} {
		if s, e := HostText(x.host); s != x.text || e != api.OK {
			t.Errorf("HostText of %x: %q, error %d, not %q", x.host, s, e, x.text)
		}
		if host, e := ParseHost(x.text); host != x.host || e != api.OK {
			t.Errorf("ParseHost of %q: %x, error %d, not %x", x.text, host, e, x.host)
		}
	}
}

// P7.2
func TestHostText(t *testing.T) {
	for _, host := range append(hosts4(), hosts6()...) {
		s, e := HostText(host)
		if s != hostTextBySearch(host) || e != api.OK {
			t.Errorf("HostText of %x: %q, error %d, not %q", host, s, e, hostTextBySearch(host))
		}
		if want, ok := libraryText(host); ok && s != want {
			t.Errorf("HostText of %x: %q, not %q", host, s, want)
		}
	}
}

// P7.2
func TestHostTextAndFamilyOfNoHosts(t *testing.T) {
	for _, host := range noHosts() {
		if s, e := HostText(host); s != "" || e != api.ErrArg {
			t.Errorf("HostText of %d octets: %q, error %d", len(host), s, e)
		}
		if n, e := Family(host); n != 0 || e != api.ErrArg {
			t.Errorf("Family of %d octets: %d, error %d", len(host), n, e)
		}
	}
}

// P7.2
func TestFamily(t *testing.T) {
	for seed := range 100 {
		if n, e := Family(text(4, seed)); n != 1 || e != api.OK {
			t.Errorf("Family of 4 octets: %d, error %d", n, e)
		}
		if n, e := Family(text(16, seed)); n != 2 || e != api.OK {
			t.Errorf("Family of 16 octets: %d, error %d", n, e)
		}
	}
	if api.Family4 != 1 || api.Family6 != 2 {
		t.Errorf("the families are %d and %d", api.Family4, api.Family6)
	}
}

// P7.1
func TestCheck(t *testing.T) {
	for _, host := range []string{zeros(4), full(4), zeros(16), full(16), text(4, 1), text(16, 1)} {
		for _, port := range somePorts() {
			if e := Check(api.Addr{Host: host, Port: port}); e != api.OK {
				t.Errorf("Check of %x, %d: error %d", host, port, e)
			}
		}
		for _, port := range wrongPorts() {
			a := api.Addr{Host: host, Port: port}
			if e := Check(a); e != api.ErrArg {
				t.Errorf("Check of %x, %d: error %d", host, port, e)
			}
			if s, e := Text(a); s != "" || e != api.ErrArg {
				t.Errorf("Text of %x, %d: %q, error %d", host, port, s, e)
			}
		}
	}
	for _, host := range noHosts() {
		for _, port := range append(somePorts(), wrongPorts()...) {
			a := api.Addr{Host: host, Port: port}
			if e := Check(a); e != api.ErrArg {
				t.Errorf("Check of %d octets, %d: error %d", len(host), port, e)
			}
			if s, e := Text(a); s != "" || e != api.ErrArg {
				t.Errorf("Text of %d octets, %d: %q, error %d", len(host), port, s, e)
			}
		}
	}
}

// P7.1
func TestKnownTexts(t *testing.T) {
	for _, x := range []struct {
		host string
		port int
		text string
	}{
		{"\xc0\xa8\x00\x01", 80, "192.168.0.1:80"},
		{octetsOf(0, 0, 0, 0, 0, 0, 0, 1), 0, "[::1]:0"},
		{zeros(16), 65535, "[::]:65535"},
		{zeros(4), 0, "0.0.0.0:0"},
		{full(4), 65535, "255.255.255.255:65535"},
		{"\x01\x02\x03\x04", 5, "1.2.3.4:5"},
		{full(16), 10, "[ffff:ffff:ffff:ffff:ffff:ffff:ffff:ffff]:10"},
	} {
		a := api.Addr{Host: x.host, Port: x.port}
		if s, e := Text(a); s != x.text || e != api.OK {
			t.Errorf("Text of %x, %d: %q, error %d, not %q", x.host, x.port, s, e, x.text)
		}
		if b, e := Parse(x.text); b != a || e != api.OK {
			t.Errorf("Parse of %q: %x, %d, error %d", x.text, b.Host, b.Port, e)
		}
	}
}

// P7.1
func TestText(t *testing.T) {
	for i, host := range append(hosts4(), hosts6()...) {
		for _, port := range []int{somePorts()[i%len(somePorts())], i % 65536} {
			a := api.Addr{Host: host, Port: port}
			if s, e := Text(a); s != addrTextBySearch(a) || e != api.OK {
				t.Errorf("Text of %x, %d: %q, error %d, not %q", host, port, s, e, addrTextBySearch(a))
			}
		}
	}
}

// P7.4: what was written is read back, and so no two addresses and no two hosts have the same text.
func TestTextsAreReadBack(t *testing.T) {
	for i, host := range append(hosts4(), hosts6()...) {
		s, _ := HostText(host)
		if back, e := ParseHost(s); back != host || e != api.OK {
			t.Errorf("ParseHost of %q: %x, error %d, not %x", s, back, e, host)
		}
		a := api.Addr{Host: host, Port: i % 65536}
		s, _ = Text(a)
		if back, e := Parse(s); back != a || e != api.OK {
			t.Errorf("Parse of %q: %x, %d, error %d, not %x", s, back.Host, back.Port, e, host)
		}
	}
	for port := range 65536 {
		for _, host := range []string{text(4, port), text(16, port)} {
			a := api.Addr{Host: host, Port: port}
			s, _ := Text(a)
			if back, e := Parse(s); back != a || e != api.OK {
				t.Errorf("Parse of %q: %x, %d, error %d, not %x", s, back.Host, back.Port, e, host)
			}
		}
	}
}

func FuzzText(f *testing.F) {
	f.Add("\x7f\x00\x00\x01", 80)
	f.Add(octetsOf(0, 0, 1, 0, 0, 0, 1, 1), 65535)
	f.Add(zeros(16), 65536)
	f.Add(zeros(5), -1)
	f.Fuzz(func(t *testing.T, host string, port int) {
		a := api.Addr{Host: host, Port: port}
		s, e := Text(a)
		if len(host) != 4 && len(host) != 16 || port < 0 || port > 65535 {
			if s != "" || e != api.ErrArg || Check(a) != api.ErrArg {
				t.Errorf("Text of %x, %d: %q, error %d", host, port, s, e)
			}
			return
		}
		if s != addrTextBySearch(a) || e != api.OK || Check(a) != api.OK {
			t.Errorf("Text of %x, %d: %q, error %d", host, port, s, e)
		}
		if back, e := Parse(s); back != a || e != api.OK {
			t.Errorf("Parse of %q: %x, %d, error %d", s, back.Host, back.Port, e)
		}
	})
}
