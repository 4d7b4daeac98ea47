package candidate

import (
	"fmt"
	"regexp"
	"strconv"
	"strings"
	"testing"

	"tannoy/address"
	"tannoy/api"
)

var kindWords = [5]string{"", "host", "peer", "server", "relay"}

// addrByLayer is the text of an address as layer 7 writes it.
func addrByLayer(a api.Addr) string {
	s, _ := address.Text(a)
	return s
}

// textByChapter is the text of a valid candidate.
func textByChapter(c api.Candidate) string {
	s := fmt.Sprintf("%s %d %d %s %s", c.Foundation, c.Component, c.Priority, addrByLayer(c.Addr), kindWords[c.Kind])
	if c.Base != c.Addr {
		s += " " + addrByLayer(c.Base)
	}
	return s
}

var textForm = regexp.MustCompile(`\A([0-9a-f-]{1,80}) ([1-9][0-9]{0,2}) ([1-9][0-9]{0,9}) ([^ ]+) (host|peer|server|relay)( [^ ]+)?\z`)

// parseByForm reads a text by its form, part by part.
func parseByForm(text string) (api.Candidate, bool) {
	m := textForm.FindStringSubmatch(text)
	if m == nil {
		return api.Candidate{}, false
	}
	addr, e := address.Parse(m[4])
	if e != api.OK {
		return api.Candidate{}, false
	}
	base := addr
	if m[6] != "" {
		if base, e = address.Parse(m[6][1:]); e != api.OK || base == addr {
			return api.Candidate{}, false
		}
	}
	c := api.Candidate{Foundation: m[1], Addr: addr, Base: base}
	c.Component, _ = strconv.Atoi(m[2])
	c.Priority, _ = strconv.Atoi(m[3])
	for kind, word := range kindWords {
		if word == m[5] {
			c.Kind = kind
		}
	}
	return c, isValidByChapter(c)
}

// checkParse reads a text, which may be wrong.
func checkParse(t *testing.T, text string) {
	t.Helper()
	c, e := Parse(text)
	want, right := parseByForm(text)
	if !right {
		if c != (api.Candidate{}) || e != api.ErrForm {
			t.Errorf("Parse of %q: %#v, error %d", text, c, e)
		}
		return
	}
	if c != want || e != api.OK {
		t.Errorf("Parse of %q: %#v, error %d, not %#v", text, c, e, want)
	}
	if again, e := Text(c); again != text || e != api.OK {
		t.Errorf("Text of what Parse reads in %q: %q, error %d", text, again, e)
	}
}

// someTexts are texts of valid candidates of all kinds.
func someTexts() []string {
	return []string{
		"1-0a000001- 1 2130706431 10.0.0.1:5000 host",
		"3-0a000001-c0000201 1 1677721855 198.51.100.1:7000 server 10.0.0.1:5000",
		"f 256 7 [2001:db8::1]:1 peer [fe80::9]:65535",
		"- 9 2147483647 0.0.0.0:1 relay",
		"0 10 1 [::]:10 server",
	}
}

// P9.3
func TestKnownTexts(t *testing.T) {
	for text, c := range map[string]api.Candidate{
		someTexts()[0]: host(),
		someTexts()[1]: server(),
		someTexts()[2]: sixes(),
		someTexts()[3]: {Kind: 4, Component: 9, Priority: 2147483647, Foundation: "-", Addr: at("0.0.0.0:1"), Base: at("0.0.0.0:1")},
		someTexts()[4]: {Kind: 3, Component: 10, Priority: 1, Foundation: "0", Addr: at("[::]:10"), Base: at("[::]:10")},
	} {
		if s, e := Text(c); s != text || e != api.OK {
			t.Errorf("Text of %#v: %q, error %d, not %q", c, s, e, text)
		}
		if got, e := Parse(text); got != c || e != api.OK {
			t.Errorf("Parse of %q: %#v, error %d", text, got, e)
		}
	}
}

// P9.3, P9.6: candidates of all kinds, addresses and numbers, which are read back.
func TestTextsAreReadBack(t *testing.T) {
	written := map[string]api.Candidate{}
	want := func(c api.Candidate) {
		s, e := Text(c)
		if s != textByChapter(c) || e != api.OK {
			t.Errorf("Text of %#v: %q, error %d, not %q", c, s, e, textByChapter(c))
		}
		if again, e := Parse(s); again != c || e != api.OK {
			t.Errorf("Parse of %q: %#v, error %d, not %#v", s, again, e, c)
		}
		if other, known := written[s]; known && other != c {
			t.Errorf("%#v and %#v have the same text", c, other)
		}
		written[s] = c
	}
	for kind := 1; kind <= 4; kind++ {
		for _, addr := range usable() {
			for _, base := range usable() {
				for _, priority := range []int{1, 9, 10, 1<<31 - 1} {
					c := api.Candidate{Kind: kind, Component: 1, Priority: priority, Foundation: "0-f", Addr: addr, Base: base}
					if isValidByChapter(c) {
						want(c)
					}
				}
			}
		}
	}
	for component := 1; component <= 256; component++ {
		want(changed(server(), func(c *api.Candidate) { c.Component = component }))
	}
	for port := 1; port <= 65535; port++ {
		want(changed(server(), func(c *api.Candidate) { c.Base.Port = port }))
	}
	for length := 1; length <= 80; length++ {
		want(changed(sixes(), func(c *api.Candidate) { c.Foundation = strings.Repeat("-0123456789abcdef", 5)[:length] }))
	}
	if len(written) < 65535 {
		t.Errorf("only %d texts", len(written))
	}
}

// P9.3: each octet changed to each value, left out, and put before each place.
func TestTextsWithOneOctetChanged(t *testing.T) {
	for _, text := range someTexts() {
		checkParse(t, text)
		for i := range len(text) {
			checkParse(t, text[:i])
			checkParse(t, text[i:])
			checkParse(t, text[:i]+text[i+1:])
			for octet := range 256 {
				one := string([]byte{byte(octet)})
				checkParse(t, text[:i]+one+text[i+1:])
				checkParse(t, text[:i]+one+text[i:])
				if i == 0 {
					checkParse(t, text+one)
				}
			}
		}
	}
}

// P9.3: each part of a text changed to others, doubled, left out, and put elsewhere.
func TestTextsWithOnePartChanged(t *testing.T) {
	others := []string{
		"", "0", "1", "01", "00", "+1", "-1", "-", "1-", "5", "256", "257", "2147483647", "2147483648", "4294967297", "9223372036854775807",
		"9223372036854775808", "18446744073709551617", "0x1", "1_0", "1.0", "1e1", "１", "10.0.0.1:5000", "10.0.0.1:05000", "10.0.0.1:0",
		"10.0.0.1:65535", "10.0.0.1:65536", "10.0.0.1", "010.0.0.1:5000", "198.51.100.1:7000", "[::1]:1", "[0::1]:1", "::1", "[2001:db8::1]:1",
		"[fe80::9]:65535", "[::]:10", "0.0.0.0:1", "host", "peer", "server", "relay", "HOST", "Host", "srflx", "hos", "hostt", "host peer", "none",
		strings.Repeat("a", 80), strings.Repeat("a", 81), strings.Repeat("1", 400),
	}
	for _, text := range someTexts() {
		parts := strings.Split(text, " ")
		for i := range parts {
			join := func(middle ...string) string {
				list := append([]string{}, parts[:i]...)
				return strings.Join(append(append(list, middle...), parts[i+1:]...), " ")
			}
			checkParse(t, join())
			checkParse(t, join(parts[i], parts[i]))
			for _, other := range others {
				checkParse(t, join(other))
				checkParse(t, join(other, parts[i]))
				checkParse(t, join(parts[i], other))
			}
			for j := range parts {
				swapped := append([]string{}, parts...)
				swapped[i], swapped[j] = swapped[j], swapped[i]
				checkParse(t, strings.Join(swapped, " "))
			}
		}
	}
}

// P9.3
func TestParseOfWrongTexts(t *testing.T) {
	h := someTexts()[0]
	for _, text := range []string{
		"", " ", "1", "host", "1- 01 5 10.0.0.1:5000 host", "1- 1 05 10.0.0.1:5000 host", "1- 1 0 10.0.0.1:5000 host", "1- 0 5 10.0.0.1:5000 host",
		" 1 5 10.0.0.1:5000 host", "1- 1 5 10.0.0.1:5000", "1- 1 5 10.0.0.1:5000 ", "1- 1 5 10.0.0.1:0 host", "1- 1 5 10.0.0.1:5000 5", "1- 1 5 10.0.0.1:5000 1",
		h + " ", " " + h, h + "\n", h + "\x00", h + "\t", strings.ToUpper(h), strings.Replace(h, " ", "  ", 1), strings.ReplaceAll(h, " ", "\t"), h + " " + h,
		h + " 10.0.0.1:5000", h + " 10.0.0.2:5000", strings.Replace(h, "host", "relay", 1) + " 10.0.0.2:5000",
		strings.Replace(h, "host", "server", 1) + " 10.0.0.1:5000", strings.Replace(h, "host", "peer", 1) + " [::1]:5000", someTexts()[1] + " 10.0.0.1:5000",
		someTexts()[1] + " ", strings.Repeat(" ", 1<<20), strings.Repeat("1 ", 1<<20), strings.Repeat("1", 1<<20), h + strings.Repeat(" ", 1<<20),
	} {
		if c, e := Parse(text); c != (api.Candidate{}) || e != api.ErrForm {
			t.Errorf("Parse of a text of %d octets, %.80q: %#v, error %d", len(text), text, c, e)
		}
	}
}

func FuzzParse(f *testing.F) {
	for _, text := range someTexts() {
		f.Add(text)
		f.Add(text + " ")
	}
	f.Add("1- 01 5 10.0.0.1:5000 host")
	f.Fuzz(checkParse)
}
