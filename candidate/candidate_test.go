package candidate

import (
	"fmt"
	"math"
	"math/big"
	"net/netip"
	"regexp"
	"strings"
	"testing"

	"tannoy/api"
)

// at is the address of a text that is read by the library.
func at(text string) api.Addr {
	a := netip.MustParseAddrPort(text)
	return api.Addr{Host: string(a.Addr().AsSlice()), Port: int(a.Port())}
}

// host is the chapter's candidate H.
func host() api.Candidate {
	a := at("10.0.0.1:5000")
	return api.Candidate{Kind: 1, Component: 1, Priority: 2130706431, Foundation: "1-0a000001-", Addr: a, Base: a}
}

// server is the chapter's candidate of a server.
func server() api.Candidate {
	return api.Candidate{Kind: 3, Component: 1, Priority: 1677721855, Foundation: "3-0a000001-c0000201", Addr: at("198.51.100.1:7000"), Base: at("10.0.0.1:5000")}
}

// sixes is a candidate with hosts of 16 octets.
func sixes() api.Candidate {
	return api.Candidate{Kind: 2, Component: 256, Priority: 7, Foundation: "f", Addr: at("[2001:db8::1]:1"), Base: at("[fe80::9]:65535")}
}

// changed returns c after a change.
func changed(c api.Candidate, change func(c *api.Candidate)) api.Candidate {
	change(&c)
	return c
}

// usable are addresses that an agent may have.
func usable() []api.Addr {
	return []api.Addr{
		at("10.0.0.1:5000"), at("0.0.0.0:1"), at("255.255.255.255:65535"), at("0.0.0.1:80"), at("127.0.0.1:10"),
		at("[::]:1"), at("[::1]:65535"), at("[2001:db8::1:0:0:1]:3478"), at("[ffff:ffff:ffff:ffff:ffff:ffff:ffff:ffff]:9"), at("[ab00::cd]:1024"),
	}
}

// unusable are addresses that no agent may have.
func unusable() []api.Addr {
	four, six := at("10.0.0.1:5000"), at("[::1]:5000")
	list := []api.Addr{{}, {Port: 5000}, {Host: "10.0.0.1", Port: 5000}, {Host: "::1", Port: 5000}}
	for _, port := range []int{math.MinInt, -1 << 32, -65536, -1, 0, 65536, 65537, 1 << 32, 1<<32 + 80, math.MaxInt} {
		list = append(list, api.Addr{Host: four.Host, Port: port}, api.Addr{Host: six.Host, Port: port})
	}
	for _, length := range []int{0, 1, 3, 5, 8, 15, 17, 32, 1200, 1 << 16} {
		list = append(list, api.Addr{Host: strings.Repeat("\x0a", length), Port: 5000})
	}
	return list
}

// wrongNumbers are not from 1 to most.
func wrongNumbers(most int) []int {
	return []int{math.MinInt, math.MinInt + 1, -1 << 32, -1<<32 + 1, -most, -1, 0, most + 1, most + 2, 2*most + 1, 1<<32 + 1, 1<<33 + 5, math.MaxInt - 1, math.MaxInt}
}

// isUsableByChapter asks the library for the host.
func isUsableByChapter(a api.Addr) bool {
	_, isHost := netip.AddrFromSlice([]byte(a.Host))
	return isHost && a.Port >= 1 && a.Port <= 65535
}

var foundationForm = regexp.MustCompile(`\A[0-9a-f-]{1,80}\z`)

// isValidByChapter follows the chapter's sentence.
func isValidByChapter(c api.Candidate) bool {
	if c.Kind < 1 || c.Kind > 4 || c.Component < 1 || c.Component > 256 || c.Priority < 1 || c.Priority > 2147483647 {
		return false
	}
	if !foundationForm.MatchString(c.Foundation) || !isUsableByChapter(c.Addr) || !isUsableByChapter(c.Base) || len(c.Addr.Host) != len(c.Base.Host) {
		return false
	}
	return c.Addr == c.Base || c.Kind == 2 || c.Kind == 3
}

// wantCheck checks c, and whether a text is written for just the valid ones.
func wantCheck(t *testing.T, c api.Candidate, valid bool) {
	t.Helper()
	want := api.Errno(90)
	if valid {
		want = api.OK
	}
	if e := Check(c); e != want || isValidByChapter(c) != valid {
		t.Errorf("Check of %#v: error %d, not %d", c, e, want)
	}
	if s, e := Text(c); e != want || (s != "") != valid {
		t.Errorf("Text of %#v: %q, error %d, not %d", c, s, e, want)
	}
	if l, e := Gather([]api.Candidate{host(), c}); e != want || (len(l) > 0) != valid {
		t.Errorf("Gather of H and %#v: %d of them, error %d, not %d", c, len(l), e, want)
	}
}

// P9.1, P9.3, P9.5: the numbers of candidates.
func TestCheckNumbers(t *testing.T) {
	if api.ErrCandidate != 90 || api.CaHost != 1 || api.CaPeer != 2 || api.CaServer != 3 || api.CaRelay != 4 {
		t.Error("the error or the kinds are not numbered as the chapter says")
	}
	if api.MaxComponent != 256 || api.MaxPriority != 2147483647 || api.MaxFoundation != 80 || api.MaxCandidates != 12 {
		t.Error("the limits are not those of the chapter")
	}
	for _, c := range []api.Candidate{host(), server(), sixes()} {
		wantCheck(t, c, true)
		for kind := -300; kind < 300; kind++ {
			wantCheck(t, changed(c, func(c *api.Candidate) { c.Kind = kind }), (kind == 1 || kind == 4) && c.Addr == c.Base || kind == 2 || kind == 3)
		}
		for component := -300; component < 600; component++ {
			wantCheck(t, changed(c, func(c *api.Candidate) { c.Component = component }), component >= 1 && component <= 256)
		}
		for _, priority := range []int{1, 2, 255, 256, 65536, 1 << 24, 1<<30 + 5, 2130706432, 2147483646, 2147483647} {
			wantCheck(t, changed(c, func(c *api.Candidate) { c.Priority = priority }), true)
		}
		for _, n := range wrongNumbers(4) {
			wantCheck(t, changed(c, func(c *api.Candidate) { c.Kind = n }), false)
		}
		for _, n := range wrongNumbers(256) {
			wantCheck(t, changed(c, func(c *api.Candidate) { c.Component = n }), false)
		}
		for _, n := range wrongNumbers(2147483647) {
			wantCheck(t, changed(c, func(c *api.Candidate) { c.Priority = n }), false)
		}
	}
	wantCheck(t, api.Candidate{}, false)
}

// P9.1, P9.3, P9.5: the foundations of candidates, with each octet in each place.
func TestCheckFoundations(t *testing.T) {
	for length := range 200 {
		for _, digit := range []string{"0", "9", "a", "f", "-", " ", "g", "A", "\x00"} {
			c := changed(server(), func(c *api.Candidate) { c.Foundation = strings.Repeat(digit, length) })
			wantCheck(t, c, length >= 1 && length <= 80 && strings.Contains("09af-", digit))
		}
	}
	for octet := range 256 {
		one := string([]byte{byte(octet)})
		for _, s := range []string{one, one + "1", "1" + one, "-" + one + "f", one + one, strings.Repeat("0", 79) + one} {
			wantCheck(t, changed(host(), func(c *api.Candidate) { c.Foundation = s }), strings.Contains("0123456789abcdef-", one))
		}
	}
	for _, s := range []string{"é", "1é", "１", "1\n", "\xff", "\xef\xbf\xbd", strings.Repeat("1", 1<<20), "0x1", "1_1", "+1", "1–1"} {
		wantCheck(t, changed(host(), func(c *api.Candidate) { c.Foundation = s }), false)
	}
}

// P9.1, P9.3, P9.5: the addresses of candidates of all kinds.
func TestCheckAddrs(t *testing.T) {
	for kind := 1; kind <= 4; kind++ {
		for _, addr := range append(usable(), unusable()...) {
			for _, base := range append(usable(), unusable()...) {
				c := changed(server(), func(c *api.Candidate) { c.Kind, c.Addr, c.Base = kind, addr, base })
				right := isUsableByChapter(addr) && isUsableByChapter(base) && len(addr.Host) == len(base.Host)
				wantCheck(t, c, right && (addr == base || kind == 2 || kind == 3))
			}
		}
	}
	for _, kind := range []int{1, 4} {
		c := changed(host(), func(c *api.Candidate) { c.Kind = kind })
		wantCheck(t, c, true)
		wantCheck(t, changed(c, func(c *api.Candidate) { c.Base.Port++ }), false)
		wantCheck(t, changed(c, func(c *api.Candidate) { c.Addr.Host = "\x0a\x00\x00\x02" }), false)
	}
}

// P9.1
func TestKnownPriorities(t *testing.T) {
	for _, x := range []struct{ kind, preference, component, want int }{
		{api.CaHost, 65535, 1, 2130706431},
		{api.CaServer, 0, 256, 1677721600},
		{api.CaServer, 0, 1, 1677721855},
		{api.CaPeer, 0, 256, 110 * 16777216},
		{api.CaPeer, 65535, 1, 111*16777216 - 1},
		{api.CaRelay, 65535, 1, 16777215},
		{api.CaRelay, 0, 255, 1},
		{api.CaRelay, 1, 256, 256},
		{api.CaRelay, 0, 1, 255},
		{api.CaHost, 0, 256, 2113929216},
	} {
		if n, e := Priority(x.kind, x.preference, x.component); n != x.want || e != api.OK {
			t.Errorf("Priority of %d, %d, %d: %d, error %d, not %d", x.kind, x.preference, x.component, n, e, x.want)
		}
	}
	if n, e := Priority(api.CaRelay, 0, 256); n != 0 || e != api.ErrArg {
		t.Errorf("the priority would be 0: %d, error %d", n, e)
	}
}

// priorityByBits is the priority put together of the bits of its parts.
func priorityByBits(kind, preference, component int) int {
	weight := [5]int{0, 126, 110, 100, 0}[kind]
	return weight<<24 | preference<<8 | (256 - component)
}

// P9.1: all components with some preferences, and all preferences with some components.
func TestPriority(t *testing.T) {
	want := func(kind, preference, component int) {
		n, e := Priority(kind, preference, component)
		if kind == 4 && preference == 0 && component == 256 {
			if n != 0 || e != api.ErrArg {
				t.Errorf("Priority of %d, %d, %d: %d, error %d", kind, preference, component, n, e)
			}
		} else if n != priorityByBits(kind, preference, component) || n < 1 || e != api.OK {
			t.Errorf("Priority of %d, %d, %d: %d, error %d", kind, preference, component, n, e)
		}
	}
	for kind := 1; kind <= 4; kind++ {
		for preference := range 65536 {
			for _, component := range []int{1, 2, 100, 128, 255, 256} {
				want(kind, preference, component)
			}
		}
		for component := 1; component <= 256; component++ {
			for _, preference := range []int{0, 1, 2, 255, 256, 257, 32767, 32768, 65534, 65535} {
				want(kind, preference, component)
			}
		}
	}
}

// P9.1
func TestPriorityOfWrongArguments(t *testing.T) {
	var wrong [][3]int
	for _, n := range wrongNumbers(4) {
		wrong = append(wrong, [3]int{n, 1, 1}, [3]int{n, -1, 1}, [3]int{n, 1, 257})
	}
	for _, n := range []int{math.MinInt, -1 << 32, -65536, -256, -2, -1, 65536, 65537, 1 << 17, 1 << 24, 1 << 32, 1<<32 + 1, math.MaxInt} {
		wrong = append(wrong, [3]int{1, n, 1}, [3]int{4, n, 256}, [3]int{2, n, 0}, [3]int{3, n, 128})
	}
	for _, n := range wrongNumbers(256) {
		wrong = append(wrong, [3]int{1, 1, n}, [3]int{2, 0, n}, [3]int{3, 65535, n}, [3]int{4, 300, n})
	}
	for _, x := range wrong {
		if n, e := Priority(x[0], x[1], x[2]); n != 0 || e != api.ErrArg {
			t.Errorf("Priority of %d, %d, %d: %d, error %d", x[0], x[1], x[2], n, e)
		}
	}
}

// P9.6: whatever the preferences and the components are.
func TestGreaterWeights(t *testing.T) {
	kinds := []int{api.CaHost, api.CaPeer, api.CaServer, api.CaRelay}
	for i, kind := range kinds[1:] {
		least, e := Priority(kinds[i], 0, 256)
		if e != api.OK {
			t.Errorf("Priority of %d: error %d", kinds[i], e)
		}
		if most, e := Priority(kind, 65535, 1); most >= least || e != api.OK {
			t.Errorf("Priority of %d is up to %d, error %d; that of %d is from %d", kind, most, e, kinds[i], least)
		}
	}
}

// P9.1
func TestKnownFoundations(t *testing.T) {
	base, none := at("10.0.0.1:5000"), api.Addr{}
	for _, x := range []struct {
		kind         int
		base, server api.Addr
		want         string
	}{
		{api.CaHost, base, none, "1-0a000001-"},
		{api.CaServer, base, at("192.0.2.1:3478"), "3-0a000001-c0000201"},
		{api.CaHost, base, at("192.0.2.1:1"), "1-0a000001-c0000201"},
		{api.CaRelay, at("255.254.10.11:65535"), base, "4-fffe0a0b-0a000001"},
		{api.CaPeer, at("[2001:db8::cd]:1"), none, "2-20010db80000000000000000000000cd-"},
		{api.CaServer, at("[::1]:1"), at("[fe80::ab]:2"), "3-00000000000000000000000000000001-fe8000000000000000000000000000ab"},
		{api.CaServer, at("[::1]:1"), base, "3-00000000000000000000000000000001-0a000001"},
		{api.CaRelay, base, at("[::]:1"), "4-0a000001-00000000000000000000000000000000"},
	} {
		if s, e := Foundation(x.kind, x.base, x.server); s != x.want || e != api.OK {
			t.Errorf("Foundation of %d, %#v, %#v: %q, error %d, not %q", x.kind, x.base, x.server, s, e, x.want)
		}
	}
}

// P9.1
func TestFoundation(t *testing.T) {
	addrs := append(usable(), unusable()...)
	for _, kind := range append(wrongNumbers(4), 1, 2, 3, 4) {
		for _, base := range addrs {
			for _, server := range addrs {
				s, e := Foundation(kind, base, server)
				if kind < 1 || kind > 4 || !isUsableByChapter(base) || !isUsableByChapter(server) && server != (api.Addr{}) {
					if s != "" || e != api.ErrArg {
						t.Errorf("Foundation of %d, %#v, %#v: %q, error %d", kind, base, server, s, e)
					}
				} else if want := fmt.Sprintf("%d-%x-%x", kind, base.Host, server.Host); s != want || e != api.OK {
					t.Errorf("Foundation of %d, %#v, %#v: %q, error %d, not %q", kind, base, server, s, e, want)
				}
			}
		}
	}
}

// P9.2
func TestKnownNew(t *testing.T) {
	base, none := at("10.0.0.1:5000"), api.Addr{}
	if c, e := New(api.CaHost, base, base, none, 65535, 1); c != host() || e != api.OK {
		t.Errorf("New of H: %#v, error %d", c, e)
	}
	if c, e := New(api.CaServer, at("198.51.100.1:7000"), base, at("192.0.2.1:3478"), 0, 1); c != server() || e != api.OK {
		t.Errorf("New of the server's one: %#v, error %d", c, e)
	}
}

// P9.2: all the errors, and which of them is first.
func TestErrorsOfNew(t *testing.T) {
	base, other, six, none := at("10.0.0.1:5000"), at("10.0.0.1:5001"), at("[::1]:5000"), api.Addr{}
	for _, x := range []struct {
		kind                  int
		addr, base, server    api.Addr
		preference, component int
		want                  api.Errno
	}{
		{0, base, base, none, 1, 1, api.ErrArg},
		{5, base, base, none, 1, 1, api.ErrArg},
		{1, none, none, none, 1, 1, api.ErrArg},
		{1, base, base, api.Addr{Port: 1}, 1, 1, api.ErrArg},
		{1, base, base, api.Addr{Host: base.Host}, 1, 1, api.ErrArg},
		{1, base, base, none, -1, 1, api.ErrArg},
		{1, base, base, none, 65536, 1, api.ErrArg},
		{1, base, base, none, 1, 0, api.ErrArg},
		{1, base, base, none, 1, 257, api.ErrArg},
		{4, base, base, none, 0, 256, api.ErrArg},
		// These are also not valid as candidates, but the other errors come first.
		{1, other, base, none, 65536, 1, api.ErrArg},
		{1, none, base, none, 1, 0, api.ErrArg},
		{4, six, base, none, 0, 256, api.ErrArg},
		{3, six, none, none, 1, 1, api.ErrArg},
		{1, other, base, none, 1, 1, api.ErrCandidate},
		{4, other, base, none, 1, 1, api.ErrCandidate},
		{2, six, base, none, 1, 1, api.ErrCandidate},
		{3, base, six, none, 1, 1, api.ErrCandidate},
		{1, none, base, none, 1, 1, api.ErrCandidate},
		{3, api.Addr{Host: base.Host}, base, none, 1, 1, api.ErrCandidate},
		{3, api.Addr{Host: base.Host, Port: 65536}, base, none, 1, 1, api.ErrCandidate},
		{3, other, base, six, 1, 1, api.OK},
		{2, base, base, none, 1, 1, api.OK},
		{4, base, base, other, 0, 255, api.OK},
	} {
		if c, e := New(x.kind, x.addr, x.base, x.server, x.preference, x.component); e != x.want || (c != api.Candidate{}) != (e == api.OK) {
			t.Errorf("New of %#v: %#v, error %d", x, c, e)
		}
	}
}

// P9.2: what New returns is made of what Foundation and Priority return.
func TestNew(t *testing.T) {
	addrs := append(usable(), unusable()[:6]...)
	for kind := -1; kind <= 6; kind++ {
		for _, addr := range addrs {
			for _, base := range addrs {
				for _, server := range addrs {
					for _, preference := range []int{-1, 0, 65535, 65536} {
						for _, component := range []int{0, 1, 256, 257} {
							got, e := New(kind, addr, base, server, preference, component)
							want, wrong := newByChapter(kind, addr, base, server, preference, component)
							if got != want || e != wrong {
								t.Fatalf("New of %d, %#v, %#v, %#v, %d, %d: %#v, error %d, not %d", kind, addr, base, server, preference, component, got, e, wrong)
							}
						}
					}
				}
			}
		}
	}
}

func newByChapter(kind int, addr, base, server api.Addr, preference, component int) (api.Candidate, api.Errno) {
	if kind < 1 || kind > 4 || !isUsableByChapter(base) || !isUsableByChapter(server) && server != (api.Addr{}) {
		return api.Candidate{}, api.ErrArg
	}
	if preference < 0 || preference > 65535 || component < 1 || component > 256 || kind == 4 && preference == 0 && component == 256 {
		return api.Candidate{}, api.ErrArg
	}
	foundation := fmt.Sprintf("%d-%x-%x", kind, base.Host, server.Host)
	c := api.Candidate{Kind: kind, Component: component, Priority: priorityByBits(kind, preference, component), Foundation: foundation, Addr: addr, Base: base}
	if !isValidByChapter(c) {
		return api.Candidate{}, api.ErrCandidate
	}
	return c, api.OK
}

// pairByChapter calculates with numbers that have no greatest one.
func pairByChapter(controlling, controlled int) string {
	lesser, greater := int64(min(controlling, controlled)), int64(max(controlling, controlled))
	n := new(big.Int).Mul(new(big.Int).Exp(big.NewInt(2), big.NewInt(32), nil), big.NewInt(lesser))
	n.Add(n, new(big.Int).Mul(big.NewInt(2), big.NewInt(greater)))
	if controlling > controlled {
		n.Add(n, big.NewInt(1))
	}
	return n.String()
}

// P9.4
func TestPairPriority(t *testing.T) {
	for _, x := range []struct{ controlling, controlled, want int }{
		{1, 2, 4294967300},
		{2, 1, 4294967301},
		{1, 1, 4294967298},
		{2113929983, 2113930239, 9079260147246696446},
		{2113930239, 2113929983, 9079260147246696447},
		{2147483647, 2147483647, math.MaxInt - 1},
		{2147483647, 1, 8589934591},
		{1, 2147483647, 8589934590},
	} {
		if n, e := PairPriority(x.controlling, x.controlled); n != x.want || e != api.OK {
			t.Errorf("PairPriority of %d and %d: %d, error %d, not %d", x.controlling, x.controlled, n, e, x.want)
		}
	}
	some := []int{1, 2, 3, 255, 256, 65535, 65536, 1<<24 - 1, 1 << 24, 1<<30 + 7, 1677721855, 2113929983, 2130706431, 2147483646, 2147483647}
	for _, controlling := range some {
		for _, controlled := range some {
			if n, e := PairPriority(controlling, controlled); fmt.Sprint(n) != pairByChapter(controlling, controlled) || e != api.OK {
				t.Errorf("PairPriority of %d and %d: %d, error %d", controlling, controlled, n, e)
			}
		}
		for _, wrong := range wrongNumbers(2147483647) {
			if n, e := PairPriority(controlling, wrong); n != 0 || e != api.ErrArg {
				t.Errorf("PairPriority of %d and %d: %d, error %d", controlling, wrong, n, e)
			}
			if n, e := PairPriority(wrong, controlling); n != 0 || e != api.ErrArg {
				t.Errorf("PairPriority of %d and %d: %d, error %d", wrong, controlling, n, e)
			}
			if n, e := PairPriority(wrong, wrong); n != 0 || e != api.ErrArg {
				t.Errorf("PairPriority of %d and %d: %d, error %d", wrong, wrong, n, e)
			}
		}
	}
}

// P9.6: the pairs of both agents, each of which tells its own candidate and its role.
func TestBothAgentsAgree(t *testing.T) {
	of := func(mine, theirs int, controlling bool) int {
		if !controlling {
			mine, theirs = theirs, mine
		}
		n, _ := PairPriority(mine, theirs)
		return n
	}
	found := map[int]bool{}
	for one := 1; one <= 60; one++ {
		for other := 1; other <= 60; other++ {
			n := of(one, other, true)
			if n != of(other, one, false) || n == 0 || found[n] {
				t.Errorf("the pair of %d and %d has the priorities %d and %d", one, other, n, of(other, one, false))
			}
			found[n] = true
		}
	}
}
