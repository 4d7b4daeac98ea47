package address

import (
	"net/netip"
	"strconv"
	"strings"
	"testing"

	"tannoy/api"
)

// hostByLibrary is the host that the library reads, if its text is the only one that the chapter allows.
func hostByLibrary(text string) (string, bool) {
	ip, err := netip.ParseAddr(text)
	if err != nil || ip.Zone() != "" {
		return "", false
	}
	host := string(ip.AsSlice())
	if hostTextBySearch(host) != text {
		return "", false
	}
	return host, true
}

func addrByLibrary(text string) (api.Addr, bool) {
	at := strings.LastIndex(text, ":")
	if at < 0 {
		return api.Addr{}, false
	}
	hostPart, portPart := text[:at], text[at+1:]
	port, err := strconv.Atoi(portPart)
	if err != nil || port < 0 || port > 65535 || strconv.Itoa(port) != portPart {
		return api.Addr{}, false
	}
	length := 4
	if strings.HasPrefix(hostPart, "[") && strings.HasSuffix(hostPart, "]") && len(hostPart) > 2 {
		length, hostPart = 16, hostPart[1:len(hostPart)-1]
	}
	host, ok := hostByLibrary(hostPart)
	if !ok || len(host) != length {
		return api.Addr{}, false
	}
	return api.Addr{Host: host, Port: port}, true
}

// checkReading reads a text, which may be wrong, as an address and as a host, and holds both against the library's.
func checkReading(t *testing.T, text string) {
	t.Helper()
	a, e := Parse(text)
	if want, ok := addrByLibrary(text); ok {
		if a != want || e != api.OK {
			t.Errorf("Parse of %q: %x, %d, error %d", text, a.Host, a.Port, e)
		}
	} else if a != (api.Addr{}) || e != api.ErrForm {
		t.Errorf("Parse of %q: %x, %d, error %d", text, a.Host, a.Port, e)
	}
	host, e := ParseHost(text)
	if want, ok := hostByLibrary(text); ok {
		if host != want || e != api.OK {
			t.Errorf("ParseHost of %q: %x, error %d", text, host, e)
		}
	} else if host != "" || e != api.ErrForm {
		t.Errorf("ParseHost of %q: %x, error %d", text, host, e)
	}
}

// P7.1: the texts of no address.
func TestParseOfWrongTexts(t *testing.T) {
	for _, s := range []string{
		"", ":", "::", "[", "]", "[]", "[]:", "[]:1", "[:]:1", ":1", "]:1", "1", "80", "1.2.3.4", "::1", "[::1]",
		"01.2.3.4:5", "1.2.3.04:5", "1.2.3.00:5", "1.2.3.4:65536", "1.2.3.4:99999", "1.2.3.4:05", "1.2.3.4:00", "1.2.3.4:",
		"1.2.3.4:-1", "1.2.3.4:+1", "1.2.3.4:a", "1.2.3.4:0x5", "1.2.3.4:5 ", " 1.2.3.4:5", "1.2.3.4: 5", "1.2.3.4:5:", "1.2.3.4:5:6",
		"1.2.3.4::5", "1.2.3.4.:5", ".1.2.3.4:5", "1..3.4:5", "1.2.3:5", "1.2.3.4.5:5", "1.2.3.256:5", "1.2.3.1000:5", "1.2.3.-4:5",
		"1.2.3.4:18446744073709551621", "1.2.3.4:4294967301", "1.2.3.18446744073709551620:5", "1.2.3.4:" + strings.Repeat("9", 5000),
		"[1.2.3.4]:5", "1.2.3.4]:5", "[1.2.3.4:5", "a.b.c.d:5", "1.2.3.a:5", "1,2,3,4:5",
		"[1::0]:1", "[0::1]:1", "[::0]:1", "[0::]:1", "[0:0:0:0:0:0:0:0]:1", "[0:0:0:0:0:0:0:1]:1", "[1:0:0:2:0:0:0:3]:1",
		"::1:80", "[::1]80", "[::1]:", "[::1]:65536", "[::1]:01", "[::1]:-1", "[::1]:a", "[::1:80", "::1]:80", "[[::1]]:80", "[::1]]:80", "[::1]:80]:80",
		"[::1]:8:0", "[::1] :80", "[ ::1]:80", "[::1%eth0]:80", "[::ffff:1.2.3.4]:80", "[::1.2.3.4]:80",
		"[::00]:1", "[::01]:1", "[::0001]:1", "[::A]:1", "[::g]:1", "[::10000]:1", "[::fffff]:1", "[1:2:3:4:5:6:7]:1", "[1:2:3:4:5:6:7:8:9]:1",
		"[1:2:3:4:5:6:7::]:1", "[::2:3:4:5:6:7:8]:1", "[1:2:3::5:6:7:8]:1", "[1:2:3:4::5:6:7:8]:1", "[1::2:3:4:5:6:7:8:9]:1", "[1::2::3]:1",
		"[:::]:1", "[1:::2]:1", "[:1::2]:1", "[1::2:]:1", "[:1:2:3:4:5:6:7]:1", "[1:2:3:4:5:6:7:]:1", "[1:2:3:4:5:6:7:8:]:1", "[::::]:1",
		"[1:0:0:0:0:0:0:2]:1", "[1::2:0:0:0:3]:1", "[0:0:0:1::]:1]", "localhost:80", "１.2.3.4:5", "1.2.3.4:5\x00", "1.2.3.4:5\n",
	} {
		if a, e := Parse(s); a != (api.Addr{}) || e != api.ErrForm {
			t.Errorf("Parse of %q: %x, %d, error %d", s, a.Host, a.Port, e)
		}
		checkReading(t, s)
	}
}

// P7.2: the texts of no host.
func TestParseHostOfWrongTexts(t *testing.T) {
	for _, s := range []string{
		"", " ", ".", "...", ":", ":::", "::::", "1", "1.2.3", "1.2.3.", ".2.3.4", "1.2.3.4.", "1.2.3.4.5", "1..2.3", "1.2..4",
		"01.2.3.4", "1.02.3.4", "1.2.003.4", "1.2.3.00", "256.2.3.4", "1.2.3.256", "1.2.3.999", "1.2.3.4294967300", "-1.2.3.4", "+1.2.3.4", "1.2.3.4 ",
		"0x1.2.3.4", "1.2.3.a", "1.2.3.4:5", "1:2:3:4", "[::1]", "[::]", "[1.2.3.4]", "::1]", "[::1", "[::1]:1",
		"0:0:0:0:0:0:0:0", "0:0:0:0:0:0:0:1", "1:0:0:0:0:0:0:0", "0::", "::0", "0::0", "1::0", "0::1", "::0:1", "1:0::", "1::0:1", "1:0::1",
		"1:2:3:4:5:6:7::", "::2:3:4:5:6:7:8", "1::3:4:5:6:7:8", "1:2:3:4::5:6:7:8", "::1:2:3:4:5:6:7:8", "1:2:3:4:5:6:7:8::",
		"1:2:3:4:5:6:7:8:9", "1:2:3:4:5:6:7", "1:2:3:4:5:6:7:", ":1:2:3:4:5:6:7", "1::2::3", "1:::2", ":::1", "1:::", ":1::", "::1:",
		"1:0:0:2:0:0:3:4", "1:0:0:2::3:4", "0:0:1:0:0:0:1:1", "::1:0:0:0:1:1", "1:2:0:0:3:4:5:6",
		"::01", "::0a", "::00", "::0000", "::A", "::aB", "::g", "::-1", "::+1", "::1 ", " ::1", "::10000", "::fffff", "::12345678901234567890",
		"::1%0", "::ffff:1.2.3.4", "::1.2.3.4", "1.2.3.4::", "2001:DB8::1", "::\xc3\xa9", "::" + strings.Repeat("f", 5000), strings.Repeat("1:", 5000), strings.Repeat("1.", 5000),
	} {
		if host, e := ParseHost(s); host != "" || e != api.ErrForm {
			t.Errorf("ParseHost of %q: %x, error %d", s, host, e)
		}
		checkReading(t, s)
	}
}

// someTexts are texts of addresses and hosts of many forms.
func someTexts() []string {
	return []string{
		"0.0.0.0", "192.168.0.1", "255.255.255.255", "1.20.100.4:5", "10.0.0.1:65535", "127.0.0.1:0", "9.99.199.249:10000",
		"::", "::1", "1::", "1::2", "2001:db8::1:0:0:1", "0:0:1::1:1", "1:0:2:0:3:0:4:0", "1:2:3:4:5:6:7:8", "0:1::", "::1:0", "1:2:3:4:5:6::", "::3:4:5:6:7:8",
		"abcd:ef01::ffff:0:10", "::ffff:102:304", "1:0:0:2::", "::2:0:0:3",
		"[::]:0", "[::1]:65535", "[1::]:80", "[2001:db8::1:0:0:1]:5000", "[1:2:3:4:5:6:7:8]:9", "[fe80::1]:10",
	}
}

const inTexts = "0123456789abcfgAF.:[]%+- \x00\xff"

// P7.1, P7.2, P7.4: texts that differ from others in a single place.
func TestReadingOfNearlyRightTexts(t *testing.T) {
	for _, s := range someTexts() {
		checkReading(t, s)
		for at := range len(s) + 1 {
			for i := range len(inTexts) {
				checkReading(t, s[:at]+inTexts[i:i+1]+s[at:])
			}
			if at == len(s) {
				continue
			}
			checkReading(t, s[:at]+s[at+1:])
			for i := range len(inTexts) {
				checkReading(t, s[:at]+inTexts[i:i+1]+s[at+1:])
			}
		}
		for at := range len(s) + 1 {
			for behind := at; behind <= len(s); behind++ {
				checkReading(t, s[:at]+s[behind:])
				checkReading(t, s[at:behind])
				checkReading(t, s[:at]+s[at:behind]+s[at:behind]+s[behind:])
			}
		}
	}
}

// P7.2, P7.4: all texts with up to nine groups and up to two places where colons are doubled. Of those that stand for the same host only one is read.
func TestReadingOfAllShortTexts(t *testing.T) {
	read := map[string]string{}
	for count := range 10 {
		for pattern := range 1 << count {
			var parts []string
			for i := range count {
				parts = append(parts, strconv.Itoa(pattern>>i%2))
			}
			for first := range count + 2 {
				for second := first; second < count+2; second++ {
					s := withDoubled(parts, first, second)
					checkReading(t, s)
					host, e := ParseHost(s)
					if e != api.OK {
						continue
					}
					if other, ok := read[host]; ok && other != s {
						t.Errorf("ParseHost of %q and of %q: both %x", s, other, host)
					}
					read[host] = s
				}
			}
		}
	}
	if len(read) != 256 {
		t.Errorf("%d hosts were read, not 256", len(read))
	}
}

// withDoubled puts a colon between parts, and two ahead of those at first and at second; one of these that is greater than the number of parts adds none.
func withDoubled(parts []string, first, second int) string {
	s := ""
	for i := range len(parts) + 1 {
		switch {
		case i == first || i == second:
			s += "::"
		case i > 0 && i < len(parts):
			s += ":"
		}
		if i < len(parts) {
			s += parts[i]
		}
	}
	return s
}

// P7.1, P7.2: all numbers as an octet, as a group and as a port, without zeros in front and with them.
func TestReadingOfAllNumbers(t *testing.T) {
	for n := range 70000 {
		checkReading(t, "1.2.3.4:"+strconv.Itoa(n))
		checkReading(t, "[::]:"+strconv.Itoa(n))
		checkReading(t, "1::"+strconv.FormatInt(int64(n), 16))
	}
	for n := range 1200 {
		for _, zero := range []string{"", "0", "00"} {
			checkReading(t, "1.2.3."+zero+strconv.Itoa(n))
			checkReading(t, zero+strconv.Itoa(n)+".2.3.4:5")
			checkReading(t, "1.2.3.4:"+zero+strconv.Itoa(n))
			checkReading(t, "1::"+zero+strconv.FormatInt(int64(n), 16))
		}
	}
}

func FuzzParse(f *testing.F) {
	for _, s := range someTexts() {
		f.Add(s)
	}
	f.Add("[::1]:65536")
	f.Add("01.2.3.4:5")
	f.Add("[1::0]:1")
	f.Fuzz(func(t *testing.T, s string) {
		checkReading(t, s)
	})
}
