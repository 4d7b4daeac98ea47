package address

import (
	"fmt"
	"math"
	"net/netip"
	"strings"
	"testing"

	"tannoy/api"
)

// hostOf is the host of a text that is read by the library.
func hostOf(text string) string {
	return string(netip.MustParseAddr(text).AsSlice())
}

// classByLibrary is the class of a host by the chapter's table, with the library's prefixes.
func classByLibrary(host string) int {
	ip, _ := netip.AddrFromSlice([]byte(host))
	for _, row := range []struct {
		class    int
		prefixes string
	}{
		{2, "0.0.0.0/32 ::/128"},
		{3, "127.0.0.0/8 ::1/128"},
		{4, "169.254.0.0/16 fe80::/10"},
		{5, "10.0.0.0/8 172.16.0.0/12 192.168.0.0/16 fc00::/7"},
		{6, "224.0.0.0/4 255.255.255.255/32 ff00::/8"},
	} {
		for prefix := range strings.FieldsSeq(row.prefixes) {
			if netip.MustParsePrefix(prefix).Contains(ip) {
				return row.class
			}
		}
	}
	return 1
}

// P7.3
func TestKnownClasses(t *testing.T) {
	if api.HostOther != 1 || api.HostNone != 2 || api.HostLoop != 3 || api.HostLink != 4 || api.HostPrivate != 5 || api.HostMany != 6 {
		t.Error("the classes are not numbered as the chapter says")
	}
	for class, hosts := range map[int]string{
		api.HostNone:  "0.0.0.0 ::",
		api.HostLoop:  "127.0.0.0 127.0.0.1 127.9.9.9 127.255.255.255 ::1",
		api.HostLink:  "169.254.0.0 169.254.0.1 169.254.255.255 fe80:: fe80::1 febf:ffff:ffff:ffff:ffff:ffff:ffff:ffff fe90::5",
		api.HostMany:  "224.0.0.0 224.0.0.1 239.1.1.1 239.255.255.255 255.255.255.255 ff00:: ff02::1 ffff:ffff:ffff:ffff:ffff:ffff:ffff:ffff",
		api.HostOther: "0.0.0.1 1.0.0.0 126.255.255.255 128.0.0.0 9.255.255.255 11.0.0.0 169.253.255.255 169.255.0.0 172.15.255.255 172.32.0.0 172.32.0.1 192.167.255.255 192.169.0.0 223.255.255.255 240.0.0.0 255.255.255.254 8.8.8.8 254.0.0.0 168.254.0.0 193.168.0.0 173.16.0.0 ::2 1::1 ::1:1 ::100:1 100:: 0:1:: ::1:0 7f00:: a00:: fe7f:ffff:: fec0:: feff:ffff:: fbff:ffff:ffff:ffff:ffff:ffff:ffff:ffff fe00:: 2001:db8::1 ::ffff:7f00:1 ::ffff:a00:1 ::ffff:0:0 e000::",
		api.HostPrivate: "10.0.0.0 10.1.2.3 10.255.255.255 172.16.0.0 172.31.0.1 172.31.255.255 172.20.5.5 192.168.0.0 192.168.0.1 192.168.255.255 " +
			"fc00:: fc00::1 fd00:: fdff:ffff:ffff:ffff:ffff:ffff:ffff:ffff",
	} {
		for s := range strings.FieldsSeq(hosts) {
			if n, e := Class(hostOf(s)); n != class || e != api.OK {
				t.Errorf("Class of %s: %d, error %d, not %d", s, n, e, class)
			}
		}
	}
}

// P7.3: all hosts that begin with two octets, and have none but octets 0, or 255, or 1 behind them.
func TestClass(t *testing.T) {
	for first := range 65536 {
		for _, tail := range []string{zeros(14), full(14), zeros(13) + "\x01", "\x01" + zeros(13), text(14, first)} {
			for _, length := range []int{4, 16} {
				host := (octetsOf(first) + tail)[:length-1] + tail[13:]
				if n, e := Class(host); n != classByLibrary(host) || e != api.OK {
					t.Errorf("Class of %x: %d, error %d, not %d", host, n, e, classByLibrary(host))
				}
			}
		}
	}
}

// P7.3: hosts that differ in a single bit from those that are a class by themselves, or from the ends of others.
func TestClassOfHostsNearTheEnds(t *testing.T) {
	for s := range strings.FieldsSeq("0.0.0.0 255.255.255.255 127.0.0.0 127.255.255.255 169.254.0.0 10.0.0.0 172.16.0.0 172.31.255.255 192.168.0.0 224.0.0.0 239.255.255.255 :: ::1 fe80:: febf:ffff:: fc00:: fdff:: ff00::") {
		for bit := range 8 * len(hostOf(s)) {
			host := flipped(hostOf(s), bit)
			if n, e := Class(host); n != classByLibrary(host) || e != api.OK {
				t.Errorf("Class of %x: %d, error %d, not %d", host, n, e, classByLibrary(host))
			}
		}
	}
}

// flipped returns host with one of its bits changed, the first one being the greatest of the first octet.
func flipped(host string, bit int) string {
	b := []byte(host)
	b[bit/8] ^= 128 >> (bit % 8)
	return string(b)
}

// P7.3
func TestClassOfNoHosts(t *testing.T) {
	for _, host := range noHosts() {
		if n, e := Class(host); n != 0 || e != api.ErrArg {
			t.Errorf("Class of %d octets: %d, error %d", len(host), n, e)
		}
	}
}

// bitsOf are the bits of a host as a text, the first one first.
func bitsOf(host string) string {
	s := ""
	for _, octet := range []byte(host) {
		s += fmt.Sprintf("%08b", octet)
	}
	return s
}

// P7.3
func TestKnownWithin(t *testing.T) {
	for _, x := range []struct {
		host, prefix string
		bits         int
		want         bool
	}{
		{"10.1.2.3", "10.1.0.0", 16, true},
		{"10.1.2.3", "10.1.0.0", 17, true},
		{"10.1.2.3", "10.1.0.0", 22, true},
		{"10.1.2.3", "10.1.0.0", 23, false},
		{"10.1.2.3", "10.1.255.255", 16, true},
		{"10.1.2.3", "10.1.255.255", 17, false},
		{"10.1.2.3", "138.1.2.3", 0, true},
		{"10.1.2.3", "138.1.2.3", 1, false},
		{"10.1.2.3", "10.1.2.3", 32, true},
		{"10.1.2.3", "10.1.2.2", 32, false},
		{"10.1.2.3", "10.1.2.2", 31, true},
		{"10.1.2.3", "::", 0, false},
		{"10.1.2.3", "::", 128, false},
		{"::", "0.0.0.0", 0, false},
		{"::", "0.0.0.0", 32, false},
		{"a01:203::", "10.1.2.3", 32, false},
		{"fe80::1", "fe80::", 10, true},
		{"fe80::1", "fe80::", 127, true},
		{"fe80::1", "fe80::", 128, false},
	} {
		if ok, e := Within(hostOf(x.host), hostOf(x.prefix), x.bits); ok != x.want || e != api.OK {
			t.Errorf("Within of %s, %s, %d: %t, error %d", x.host, x.prefix, x.bits, ok, e)
		}
	}
}

// P7.3, P7.4: hosts that differ in one bit, or in all bits behind one, for all numbers of bits.
func TestWithin(t *testing.T) {
	for _, host := range []string{zeros(4), full(4), text(4, 1), zeros(16), full(16), text(16, 1)} {
		prefixes := []string{host, text(len(host), 2)}
		for bit := range 8 * len(host) {
			other := flipped(host, bit)
			prefixes = append(prefixes, other)
			for behind := bit + 1; behind < 8*len(host); behind++ {
				other = flipped(other, behind)
			}
			prefixes = append(prefixes, other)
		}
		for _, prefix := range prefixes {
			for bits := range 8*len(prefix) + 1 {
				want := bitsOf(host)[:bits] == bitsOf(prefix)[:bits]
				if ok, e := Within(host, prefix, bits); ok != want || e != api.OK {
					t.Errorf("Within of %x, %x, %d: %t, error %d", host, prefix, bits, ok, e)
				}
			}
		}
	}
}

// P7.4
func TestWithinFollowsFromItself(t *testing.T) {
	list := []string{zeros(4), full(4), zeros(16), full(16)}
	for seed := range 10 {
		list = append(list, text(4, seed), text(16, seed), "\x0a\x01"+text(2, seed), "\xfe\x80"+text(14, seed))
	}
	for _, host := range list {
		if ok, e := Within(host, host, 8*len(host)); !ok || e != api.OK {
			t.Errorf("Within of %x, itself and all bits: %t, error %d", host, ok, e)
		}
		for _, prefix := range list {
			if ok, e := Within(host, prefix, 0); ok != (len(host) == len(prefix)) || e != api.OK {
				t.Errorf("Within of %x, %x, 0: %t, error %d", host, prefix, ok, e)
			}
			before := true
			for bits := range 8*len(prefix) + 1 {
				ok, e := Within(host, prefix, bits)
				if ok && !before || e != api.OK {
					t.Errorf("Within of %x, %x, %d: %t, error %d", host, prefix, bits, ok, e)
				}
				before = ok
			}
		}
	}
}

// P7.3
func TestWithinOfWrongArguments(t *testing.T) {
	hosts := []string{zeros(4), zeros(16)}
	for _, wrong := range noHosts() {
		for _, other := range append(hosts, wrong) {
			for _, bits := range []int{-1, 0, 8, 32, 33, 128, 129} {
				if ok, e := Within(wrong, other, bits); ok || e != api.ErrArg {
					t.Errorf("Within of %d octets, %d octets, %d: %t, error %d", len(wrong), len(other), bits, ok, e)
				}
				if ok, e := Within(other, wrong, bits); ok || e != api.ErrArg {
					t.Errorf("Within of %d octets, %d octets, %d: %t, error %d", len(other), len(wrong), bits, ok, e)
				}
			}
		}
	}
	for _, host := range hosts {
		for _, prefix := range hosts {
			most := 8 * len(prefix)
			for _, bits := range []int{math.MinInt, -1 << 32, -128, -8, -1, most + 1, most + 7, most + 8, 129, 1 << 32, math.MaxInt} {
				if ok, e := Within(host, prefix, bits); ok || e != api.ErrArg {
					t.Errorf("Within of %d octets, %d octets, %d: %t, error %d", len(host), len(prefix), bits, ok, e)
				}
			}
			if ok, e := Within(host, prefix, most); ok != (host == prefix) || e != api.OK {
				t.Errorf("Within of %d octets, %d octets, %d: %t, error %d", len(host), len(prefix), most, ok, e)
			}
		}
	}
}

func FuzzWithin(f *testing.F) {
	f.Add("\x0a\x01\x02\x03", "\x0a\x01\x00\x00", 16)
	f.Add(zeros(16), zeros(4), 33)
	f.Add(zeros(16), full(16), -1)
	f.Fuzz(func(t *testing.T, host, prefix string, bits int) {
		class, e := Class(host)
		isHost := len(host) == 4 || len(host) == 16
		if isHost && (class != classByLibrary(host) || e != api.OK) || !isHost && (class != 0 || e != api.ErrArg) {
			t.Errorf("Class of %x: %d, error %d", host, class, e)
		}
		ok, e := Within(host, prefix, bits)
		if !isHost || len(prefix) != 4 && len(prefix) != 16 || bits < 0 || bits > 8*len(prefix) {
			if ok || e != api.ErrArg {
				t.Errorf("Within of %x, %x, %d: %t, error %d", host, prefix, bits, ok, e)
			}
			return
		}
		want := len(host) == len(prefix) && bitsOf(host)[:bits] == bitsOf(prefix)[:bits]
		if ok != want || e != api.OK {
			t.Errorf("Within of %x, %x, %d: %t, error %d", host, prefix, bits, ok, e)
		}
	})
}
