package digest

import (
	"crypto/hkdf"
	"crypto/hmac"
	"crypto/sha256"
	"math"
	"strings"
	"testing"

	"tannoy/api"
	"tannoy/octets"
)

// codeOf is the code of s with the key, made by the library.
func codeOf(key, s string) string {
	h := hmac.New(sha256.New, []byte(key))
	h.Write([]byte(s))
	return string(h.Sum(nil))
}

func unhex(t *testing.T, text string) string {
	t.Helper()
	s, e := octets.Unhex(text)
	if e != api.OK {
		t.Fatalf("Unhex(%s): error %d", text, e)
	}
	return s
}

// P2.2
func TestMacOfKnownTexts(t *testing.T) {
	for _, x := range []struct{ key, s, want string }{
		{strings.Repeat("\x0b", 20), "Hi There", "b0344c61d8db38535ca8afceaf0bf12b881dc200c9833da726e9376c2e32cff7"},
		{"Jefe", "what do ya want for nothing?", "5bdcc146bf60754e6a042426089575c75a003f089d2739839dec58b964ec3843"},
		{strings.Repeat("\xaa", 131), "Test Using Larger Than Block-Size Key - Hash Key First", "60e431591ee0b67f0d8a26aacbf5b77f8e0bc6213728c5140546040f0ee37f54"},
		{"", "", "b613679a0814d9ec772f95d778c35fc5ff1697c493715653c6c712144292c5ad"},
	} {
		s, e := Mac(x.key, x.s)
		if got := hexOf(t, s, e); got != x.want {
			t.Errorf("Mac(%q, %q): %s", x.key, x.s, got)
		}
	}
}

// P2.2
func TestMac(t *testing.T) {
	sizes := []int{0, 1, 31, 32, 33, 55, 56, 63, 64, 65, 127, 128, 129, 1000, 4032, 4033, 4095, 4096}
	for _, n := range sizes {
		for _, m := range sizes {
			key, s := text(n, n), text(m, m+1)
			if got, e := Mac(key, s); got != codeOf(key, s) || e != api.OK {
				t.Errorf("Mac of a key of %d and %d octets: %s, error %d", n, m, octets.Hex(got), e)
			}
		}
	}
}

// P2.2
func TestMacOfTooMuch(t *testing.T) {
	for _, x := range [][2]int{{4097, 0}, {0, 4097}, {4097, 4097}, {4096, 4097}, {4097, 4096}, {1 << 20, 1}} {
		if s, e := Mac(text(x[0], 0), text(x[1], 1)); s != "" || e != api.ErrLong {
			t.Errorf("Mac of a key of %d and %d octets: %q, error %d", x[0], x[1], s, e)
		}
	}
}

// P2.4: keys of up to 64 octets are used themselves, longer ones by their digest.
func TestLongKeysHaveTheCodesOfTheirDigests(t *testing.T) {
	for _, n := range []int{0, 1, 32, 63, 64, 65, 66, 100, 4096} {
		key := text(n, 7)
		sum, e := Sum(key)
		if e != api.OK {
			t.Fatalf("Sum: error %d", e)
		}
		one, e := Mac(key, "some octets")
		if e != api.OK {
			t.Fatalf("Mac: error %d", e)
		}
		other, e := Mac(sum, "some octets")
		if e != api.OK {
			t.Fatalf("Mac: error %d", e)
		}
		if (one == other) != (n > 64) {
			t.Errorf("a key of %d octets: %s, with its digest %s", n, octets.Hex(one), octets.Hex(other))
		}
	}
}

// P2.3
func TestDeriveKnownOctets(t *testing.T) {
	for _, x := range []struct {
		secret, salt, label string
		n                   int
		want                string
	}{
		{
			strings.Repeat("0b", 22), "000102030405060708090a0b0c", "f0f1f2f3f4f5f6f7f8f9", 42,
			"3cb25f25faacd57a90434f64d0362f2a2d2d0a90cf1a5a4c5db02d56ecc4c5bf34007208d5b887185865",
		},
		{
			strings.Repeat("0b", 22), "", "", 42,
			"8da4e775a563c18f715f802a063c5a31b8a11f5c5ee1879ec3454e5f3c738d2d9d201395faa4b61a96c8",
		},
	} {
		s, e := Derive(unhex(t, x.secret), unhex(t, x.salt), unhex(t, x.label), x.n)
		if got := hexOf(t, s, e); got != x.want {
			t.Errorf("Derive(%s, %s, %s, %d): %s", x.secret, x.salt, x.label, x.n, got)
		}
	}
}

// P2.3, and P2.4: every number of octets is the beginning of the greatest one.
func TestDerive(t *testing.T) {
	for _, x := range [][3]int{{0, 0, 0}, {32, 32, 8}, {64, 64, 64}, {65, 65, 65}, {1, 100, 0}, {4096, 4096, 4096}, {0, 4096, 31}} {
		secret, salt, label := text(x[0], 1), text(x[1], 2), text(x[2], 3)
		all, err := hkdf.Key(sha256.New, []byte(secret), []byte(salt), label, 255)
		if err != nil {
			t.Fatal(err)
		}
		for n := 0; n <= 255; n++ {
			if s, e := Derive(secret, salt, label, n); s != string(all[:n]) || e != api.OK {
				t.Errorf("Derive of %v octets, %d: %s, error %d", x, n, octets.Hex(s), e)
			}
		}
	}
}

// P2.3: the definition, with codes.
func TestDerivedOctetsAreCodes(t *testing.T) {
	p := codeOf("salt", "secret")
	want, last := "", ""
	for i := range 8 {
		last = codeOf(p, last+"label"+string([]byte{byte(i + 1)}))
		want += last
	}
	if s, e := Derive("secret", "salt", "label", 255); s != want[:255] || e != api.OK {
		t.Errorf("Derive: %s, error %d", octets.Hex(s), e)
	}
}

// P2.3
func TestDeriveErrors(t *testing.T) {
	longest, long := text(4096, 0), text(4097, 0)
	for _, x := range []struct {
		secret, salt, label string
		n                   int
		e                   api.Errno
	}{
		{"a", "b", "c", -1, api.ErrArg},
		{"a", "b", "c", 256, api.ErrArg},
		{"", "", "", 256, api.ErrArg},
		{"", "", "", math.MaxInt, api.ErrArg},
		{"", "", "", math.MinInt, api.ErrArg},
		{longest, longest, longest, 256, api.ErrArg},
		{long, "b", "c", 32, api.ErrLong},
		{"a", long, "c", 32, api.ErrLong},
		{"a", "b", long, 32, api.ErrLong},
		{long, long, long, 0, api.ErrLong},
		{long, "", "", -1, api.ErrLong},
		{"", long, "", 256, api.ErrLong},
		{"", "", long, math.MaxInt, api.ErrLong},
	} {
		if s, e := Derive(x.secret, x.salt, x.label, x.n); s != "" || e != x.e {
			t.Errorf("Derive of %d, %d, %d octets, %d: %q, error %d", len(x.secret), len(x.salt), len(x.label), x.n, s, e)
		}
	}
}
