package parity

import (
	"slices"
	"strings"
	"testing"

	"tannoy/api"
)

// parityWith is the parity, found place by place.
func parityWith(l []string) string {
	var out []byte
	for place := 0; ; place++ {
		octet, some := byte(0), false
		for _, s := range l {
			if place < len(s) {
				octet, some = octet^s[place], true
			}
		}
		if !some {
			return string(out)
		}
		out = append(out, octet)
	}
}

// parity is Xor of strings that must have a parity.
func parity(t *testing.T, l []string) string {
	t.Helper()
	s, e := Xor(l)
	if e != api.OK {
		t.Fatalf("Xor of %d strings: error %d", len(l), e)
	}
	return s
}

// rows are so many strings of different lengths, of which the longest one has the given number of octets and stands at the place of the seed.
func rows(count, longest, seed int) []string {
	var l []string
	for i := range count {
		l = append(l, text(longest*(1+(count+i-seed%count)%count)/count, seed+100*i))
	}
	return l
}

// P6.3
func TestKnownParities(t *testing.T) {
	for _, x := range []struct {
		rows []string
		want string
	}{
		{nil, ""},
		{[]string{}, ""},
		{[]string{""}, ""},
		{[]string{"", "", ""}, ""},
		{[]string{"\x01\x02\x03", "\xff"}, "\xfe\x02\x03"},
		{[]string{"\xff", "\x01\x02\x03"}, "\xfe\x02\x03"},
		{[]string{"\x01\x02\x03", "", "\xff"}, "\xfe\x02\x03"},
		{[]string{"abc"}, "abc"},
		{[]string{"abc", ""}, "abc"},
		{[]string{"abc", "abc"}, "\x00\x00\x00"},
		{[]string{"abc", "abc", "abc"}, "abc"},
		{[]string{"abc", "abcd"}, "\x00\x00\x00d"},
		{[]string{"a\x00\x00"}, "a\x00\x00"},
		{[]string{"a", "\x00\x00"}, "a\x00"},
		{[]string{"\x80\x40", "\x08\x04", "\x11"}, "\x99\x44"},
	} {
		if s, e := Xor(x.rows); s != x.want || e != api.OK {
			t.Errorf("Xor of %q: %q, error %d", x.rows, s, e)
		}
	}
}

// P6.3: of all numbers of strings, and up to the longest ones.
func TestXor(t *testing.T) {
	for count := 1; count <= 64; count++ {
		for _, longest := range []int{0, 1, 2, 63, 64, 1199, 1200} {
			l := rows(count, longest, count)
			before := slices.Clone(l)
			s, e := Xor(l)
			if s != parityWith(l) || len(s) != longest || e != api.OK {
				t.Errorf("Xor of %d strings of up to %d octets: %q, error %d", count, longest, s, e)
			}
			if !slices.Equal(l, before) {
				t.Errorf("Xor of %d strings of up to %d octets changed them", count, longest)
			}
		}
	}
	if api.MaxRows != 64 || api.MaxPacket != 1200 {
		t.Errorf("MaxRows is %d and MaxPacket %d", api.MaxRows, api.MaxPacket)
	}
}

// P6.3
func TestXorOfTooMuch(t *testing.T) {
	for _, count := range []int{65, 66, 128, 10000} {
		for _, l := range [][]string{make([]string, count), rows(count, 10, 1), rows(count, 1201, 2)} {
			if s, e := Xor(l); s != "" || e != api.ErrLong {
				t.Errorf("Xor of %d strings: %q, error %d", count, s, e)
			}
		}
	}
	for _, n := range []int{1201, 1202, 4096, 1 << 20} {
		for _, count := range []int{1, 2, 64} {
			for at := range count {
				l := rows(count, 1200, at)
				l[at] = zeros(n)
				if s, e := Xor(l); s != "" || e != api.ErrLong {
					t.Errorf("Xor of %d strings, the one at %d of %d octets: %q, error %d", count, at, n, s, e)
				}
			}
		}
	}
}

// P6.4
func TestStringsAndTheirParityAreZero(t *testing.T) {
	for count := range 64 {
		l := rows(count, 400, count)
		s := parity(t, l)
		if all := parity(t, append(l, s)); all != zeros(len(s)) {
			t.Errorf("the parity of %d strings and their parity is %q", count, all)
		}
	}
}

// P6.4: whichever is lost, the parity itself among them.
func TestALostStringIsFound(t *testing.T) {
	for count := 1; count <= 64; count++ {
		l := rows(count, 200, count)
		l[0] += "\x00\x00"
		l = append(l, parity(t, l))
		for lost := range l {
			found := parity(t, slices.Delete(slices.Clone(l), lost, lost+1))
			rest, begins := strings.CutPrefix(found, l[lost])
			if !begins || strings.Trim(rest, "\x00") != "" {
				t.Errorf("of %d strings, the lost one at %d, %q, is found as %q", count, lost, l[lost], found)
			}
		}
	}
}

// P6.4
func TestTheOrderOfStrings(t *testing.T) {
	for count := 2; count <= 64; count++ {
		l := rows(count, 100, 0)
		want := parity(t, l)
		slices.Reverse(l)
		if s := parity(t, l); s != want {
			t.Errorf("Xor of %d strings, the last one first: %q, want %q", count, s, want)
		}
		for range count {
			l = append(l[1:], l[0])
			if s := parity(t, l); s != want {
				t.Errorf("Xor of %d strings, turned: %q, want %q", count, s, want)
			}
		}
	}
}

func FuzzXor(f *testing.F) {
	f.Add("\x01\x02\x03|\xff")
	f.Add("")
	f.Add("a||abc")
	f.Add(strings.Repeat("|", 64))
	f.Add("a|" + zeros(1201))
	f.Fuzz(func(t *testing.T, joined string) {
		l := strings.Split(joined, "|")
		s, e := Xor(l)
		if len(l) > 64 || slices.ContainsFunc(l, func(row string) bool { return len(row) > 1200 }) {
			if s != "" || e != api.ErrLong {
				t.Errorf("Xor of %q: %q, error %d", l, s, e)
			}
			return
		}
		if s != parityWith(l) || e != api.OK {
			t.Errorf("Xor of %q: %q, error %d", l, s, e)
		}
	})
}
