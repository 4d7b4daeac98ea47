package octets

import (
	"encoding/hex"
	"strings"
	"testing"

	"tannoy/api"
)

// everyOctet has each octet once.
func everyOctet() string {
	var b []byte
	for c := range 256 {
		b = append(b, byte(c))
	}
	return string(b)
}

// P1.3
func TestHex(t *testing.T) {
	for _, x := range []struct{ s, want string }{
		{"", ""}, {"\x00", "00"}, {"\x00\xab", "00ab"}, {"\xff\x09\x90", "ff0990"}, {"0a", "3061"}, {"\u00e9", "c3a9"},
	} {
		if got := Hex(x.s); got != x.want {
			t.Errorf("Hex(%q): %s", x.s, got)
		}
	}
	if got, want := Hex(everyOctet()), hex.EncodeToString([]byte(everyOctet())); got != want {
		t.Errorf("Hex of every octet: %s", got)
	}
}

// P1.3: two octets are a text exactly if both are digits.
func TestUnhexOfAllPairs(t *testing.T) {
	const digits = "0123456789abcdef"
	for a := range 256 {
		for b := range 256 {
			text := string([]byte{byte(a), byte(b)})
			want, wrong := "", api.ErrForm
			high, low := strings.IndexByte(digits, byte(a)), strings.IndexByte(digits, byte(b))
			if high >= 0 && low >= 0 {
				want, wrong = string([]byte{byte(16*high + low)}), api.OK
			}
			if s, e := Unhex(text); s != want || e != wrong {
				t.Errorf("Unhex(%q): %q, error %d", text, s, e)
			}
		}
	}
}

// P1.3
func TestUnhex(t *testing.T) {
	for _, x := range []struct {
		text, want string
		e          api.Errno
	}{
		{"", "", api.OK},
		{"00ab", "\x00\xab", api.OK},
		{"00ff10", "\x00\xff\x10", api.OK},
		{"0", "", api.ErrForm},
		{"g", "", api.ErrForm},
		{"00a", "", api.ErrForm},
		{"00aB", "", api.ErrForm},
		{"AB", "", api.ErrForm},
		{"g0ab", "", api.ErrForm},
		{"00g0ab", "", api.ErrForm},
		{"00abg", "", api.ErrForm},
		{"0x00", "", api.ErrForm},
		{"00 ab", "", api.ErrForm},
		{"00ab\n", "", api.ErrForm},
		{"0\x00", "", api.ErrForm},
		{"\uff10\uff11", "", api.ErrForm},
	} {
		if s, e := Unhex(x.text); s != x.want || e != x.e {
			t.Errorf("Unhex(%q): %q, error %d", x.text, s, e)
		}
	}
}

// P1.5
func TestHexAndUnhexAreInverse(t *testing.T) {
	all := everyOctet()
	for _, s := range []string{"", "\x00", "\xff\xff", "text", all, strings.Repeat(all, 3)} {
		if got, e := Unhex(Hex(s)); got != s || e != api.OK {
			t.Errorf("Unhex of Hex(%q): %q, error %d", s, got, e)
		}
	}
	for _, text := range []string{"", "00", "0123456789abcdef", "fedcba9876543210"} {
		if s, e := Unhex(text); Hex(s) != text || e != api.OK {
			t.Errorf("Hex of Unhex(%s): %s, error %d", text, Hex(s), e)
		}
	}
}
