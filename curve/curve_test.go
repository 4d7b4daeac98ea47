package curve

import (
	"crypto/ecdh"
	"math/big"
	"strings"
	"testing"

	"tannoy/api"
	"tannoy/octets"
)

// text returns n octets of many values, which are not those of another seed.
func text(n, seed int) string {
	b := make([]byte, n)
	x := uint32(2*seed + 1)
	for i := range b {
		x = x*1664525 + 1013904223
		b[i] = byte(x >> 24)
	}
	return string(b)
}

func unhex(t *testing.T, s string) string {
	t.Helper()
	out, e := octets.Unhex(s)
	if e != api.OK {
		t.Fatalf("Unhex(%s): error %d", s, e)
	}
	return out
}

func zeros(n int) string {
	return strings.Repeat("\x00", n)
}

func full(n int) string {
	return strings.Repeat("\xff", n)
}

// nine is the public key with the number 9.
func nine() string {
	return "\x09" + zeros(31)
}

// changed returns s with a bit of the octet at i changed.
func changed(s string, i, bit int) string {
	b := []byte(s)
	b[i] ^= 1 << bit
	return string(b)
}

// combined is the rest of the sum of x, and of y taken so many times.
func combined(x, y *big.Int, times int64) *big.Int {
	out := new(big.Int).Mul(y, big.NewInt(times))
	out.Add(out, x)
	return out.Mod(out, modulus())
}

func product(x, y *big.Int) *big.Int {
	out := new(big.Int).Mul(x, y)
	return out.Mod(out, modulus())
}

// resultWith is the result as the chapter's text has it, with the library's numbers.
func resultWith(secret, public string) string {
	k := new(big.Int).Mod(bigOf(secret), power(254))
	k.Add(k, power(254))
	k.AndNot(k, big.NewInt(7))
	u := new(big.Int).Mod(bigOf(public), power(255))
	u.Mod(u, modulus())
	a, b, c, d := big.NewInt(1), big.NewInt(0), u, big.NewInt(1)
	for t := 254; t >= 0; t-- {
		if k.Bit(t) == 1 {
			a, b, c, d = c, d, a, b
		}
		s := product(combined(a, b, 1), combined(a, b, 1))
		m := product(combined(a, b, -1), combined(a, b, -1))
		e := combined(s, m, -1)
		f := product(combined(c, d, -1), combined(a, b, 1))
		g := product(combined(c, d, 1), combined(a, b, -1))
		a, b = product(s, m), product(e, combined(s, e, 121665))
		c = product(combined(f, g, 1), combined(f, g, 1))
		d = product(u, product(combined(f, g, -1), combined(f, g, -1)))
		if k.Bit(t) == 1 {
			a, b, c, d = c, d, a, b
		}
	}
	return octetsOf(product(a, new(big.Int).Exp(b, near(modulus(), -2), modulus())))
}

// libraryShared is what the library's curve has for the keys, or nothing where it refuses them.
func libraryShared(t *testing.T, secret, public string) string {
	t.Helper()
	private, err := ecdh.X25519().NewPrivateKey([]byte(secret))
	if err != nil {
		t.Fatal(err)
	}
	other, err := ecdh.X25519().NewPublicKey([]byte(public))
	if err != nil {
		t.Fatal(err)
	}
	out, err := private.ECDH(other)
	if err != nil {
		return ""
	}
	return string(out)
}

// shared is Shared of keys that must have a result.
func shared(t *testing.T, secret, public string) string {
	t.Helper()
	s, e := Shared(secret, public)
	if len(s) != 32 || e != api.OK {
		t.Fatalf("Shared(%s, %s): %d octets, error %d", octets.Hex(secret), octets.Hex(public), len(s), e)
	}
	return s
}

func publicOf(t *testing.T, secret string) string {
	t.Helper()
	s, e := Public(secret)
	if len(s) != 32 || e != api.OK {
		t.Fatalf("Public(%s): %d octets, error %d", octets.Hex(secret), len(s), e)
	}
	return s
}

// refused reports an error if Shared of the keys is not ErrArg.
func refused(t *testing.T, what, secret, public string) {
	t.Helper()
	if s, e := Shared(secret, public); s != "" || e != api.ErrArg {
		t.Errorf("%s: Shared(%s, %s): %s, error %d", what, octets.Hex(secret), octets.Hex(public), octets.Hex(s), e)
	}
}

// secrets are some keys, those with the least and the greatest numbers among them.
func secrets() []string {
	return []string{zeros(32), full(32), nine(), zeros(31) + "\x80", text(32, 1000), text(32, 1001)}
}

// P5.1
func TestClamp(t *testing.T) {
	for _, x := range []struct{ secret, want string }{
		{full(32), "\xf8" + full(30) + "\x7f"},
		{zeros(32), zeros(31) + "\x40"},
		{"\x07" + zeros(30) + "\x80", zeros(31) + "\x40"},
		{"\x08" + zeros(30) + "\x40", "\x08" + zeros(30) + "\x40"},
		{"\x0f" + zeros(30) + "\xbf", "\x08" + zeros(30) + "\x7f"},
		{
			unhex(t, "a546e36bf0527c9d3b16154b82465edd62144c0ac1fc5a18506a2244ba449ac5"),
			unhex(t, "a046e36bf0527c9d3b16154b82465edd62144c0ac1fc5a18506a2244ba449a45"),
		},
	} {
		if s, e := Clamp(x.secret); s != x.want || e != api.OK {
			t.Errorf("Clamp(%s): %s, error %d", octets.Hex(x.secret), octets.Hex(s), e)
		}
	}
}

// P5.1: all first octets and all last ones; what is between them stays as it is.
func TestClampOfAllOctetsAtTheEnds(t *testing.T) {
	for first := range 256 {
		for last := range 256 {
			between := text(30, first*256+last)
			secret := string([]byte{byte(first)}) + between + string([]byte{byte(last)})
			want := string([]byte{byte(first / 8 * 8)}) + between + string([]byte{byte(last%64 + 64)})
			if s, e := Clamp(secret); s != want || e != api.OK {
				t.Errorf("Clamp(%s): %s, error %d", octets.Hex(secret), octets.Hex(s), e)
			}
			if s, e := Clamp(want); s != want || e != api.OK {
				t.Errorf("Clamp(%s), which is clamped: %s, error %d", octets.Hex(want), octets.Hex(s), e)
			}
		}
	}
}

// P5.1, P5.2
func TestKeysOfWrongLengths(t *testing.T) {
	key := text(32, 1)
	for _, n := range []int{0, 1, 8, 16, 30, 31, 33, 63, 64, 65, 4096, 1 << 20} {
		for _, wrong := range []string{text(n, 2), zeros(n), full(n)} {
			if s, e := Clamp(wrong); s != "" || e != api.ErrArg {
				t.Errorf("Clamp of %d octets: %q, error %d", n, s, e)
			}
			if s, e := Public(wrong); s != "" || e != api.ErrArg {
				t.Errorf("Public of %d octets: %q, error %d", n, s, e)
			}
			refused(t, "a wrong secret key", wrong, key)
			refused(t, "a wrong public key", key, wrong)
			refused(t, "two wrong keys", wrong, wrong)
		}
	}
	refused(t, "64 octets in all", key[:31], key+"\x00")
	refused(t, "64 octets in all", key+"\x00", key[:31])
}

// P5.2
func TestSharedOfKnownTexts(t *testing.T) {
	for _, x := range []struct{ secret, public, want string }{
		{
			"a546e36bf0527c9d3b16154b82465edd62144c0ac1fc5a18506a2244ba449ac4",
			"e6db6867583030db3594c1a424b15f7c726624ec26b3353b10a903a6d0ab1c4c",
			"c3da55379de9c6908e94ea4df28d084f32eccf03491c71f754b4075577a28552",
		},
		{
			"4b66e9d4d1b4673c5ad22691957d6af5c11b6421e0ea01d42ca4169e7918ba0d",
			"e5210f12786811d3f4b7959d0538ae2c31dbe7106fc03c3efc4cd549c715a493",
			"95cbde9476e8907d7aade45cb4b873f88b595a68799fa152e6f8f7647aac7957",
		},
		{
			"5dab087e624a8a4b79e17f8b83800ee66f3bb1292618b6fd1c2f8b27ff88e0eb",
			"8520f0098930a754748b7ddcb43ef75a0dbf3a0d26381af4eba4a98eaa9b4e6a",
			"4a5d9d5ba4ce2de1728e3bf480350f25e07e21c947d19e3376f09b3c1e161742",
		},
	} {
		if s, e := Shared(unhex(t, x.secret), unhex(t, x.public)); octets.Hex(s) != x.want || e != api.OK {
			t.Errorf("Shared(%s, %s): %s, error %d", x.secret, x.public, octets.Hex(s), e)
		}
	}
}

// P5.2
func TestPublicOfKnownTexts(t *testing.T) {
	for _, x := range []struct{ secret, want string }{
		{
			"5dab087e624a8a4b79e17f8b83800ee66f3bb1292618b6fd1c2f8b27ff88e0eb",
			"de9edb7d7b7dc1b4d35b61c2ece435373f8343c85b78674dadfc7e146f882b4f",
		},
		{
			octets.Hex(nine()),
			"422c8e7a6227d7bca1350b3e2bb7279f7897b87bb6854b783c60e80311ae3079",
		},
	} {
		if s, e := Public(unhex(t, x.secret)); octets.Hex(s) != x.want || e != api.OK {
			t.Errorf("Public(%s): %s, error %d", x.secret, octets.Hex(s), e)
		}
	}
}

// P5.2: each result is the next secret key, and each secret key the next public one.
func TestAThousandResults(t *testing.T) {
	secret, public := nine(), nine()
	for range 1000 {
		secret, public = shared(t, secret, public), secret
	}
	if s := octets.Hex(secret); s != "684cf59ba83309552800ef566f2f4d3c1c3887c49360e3875f2eb94d99532c51" {
		t.Errorf("the result after a thousand: %s", s)
	}
}

// P5.2: Public is the result of the public key with the number 9.
func TestPublic(t *testing.T) {
	list := secrets()
	for seed := range 100 {
		list = append(list, text(32, seed))
	}
	for bit := range 256 {
		list = append(list, changed(zeros(32), bit/8, bit%8))
	}
	for _, secret := range list {
		got := publicOf(t, secret)
		if got != resultWith(secret, nine()) || got != libraryShared(t, secret, nine()) || got != shared(t, secret, nine()) {
			t.Errorf("Public(%s): %s", octets.Hex(secret), octets.Hex(got))
		}
	}
}

// P5.2
func TestShared(t *testing.T) {
	for seed := range 300 {
		secret, public := text(32, seed), text(32, seed+300)
		got := shared(t, secret, public)
		if got != resultWith(secret, public) || got != libraryShared(t, secret, public) {
			t.Errorf("Shared(%s, %s): %s", octets.Hex(secret), octets.Hex(public), octets.Hex(got))
		}
	}
}

// P5.2: public keys with the numbers at which something begins or ends, with their greatest bit and without it; a result of octets 0 is ErrArg.
func TestSharedOfEdges(t *testing.T) {
	refusals := 0
	for i, x := range edges() {
		low := new(big.Int).Mod(x, power(255))
		for _, public := range []string{octetsOf(low), octetsOf(new(big.Int).Add(low, power(255)))} {
			secret := secrets()[i%len(secrets())]
			want := resultWith(secret, public)
			if want == zeros(32) {
				refusals++
				refused(t, "a result of octets 0", secret, public)
				continue
			}
			if got := shared(t, secret, public); got != want || got != libraryShared(t, secret, public) {
				t.Errorf("Shared(%s, %s): %s", octets.Hex(secret), octets.Hex(public), octets.Hex(got))
			}
		}
	}
	if refusals == 0 {
		t.Errorf("none of the edges has a result of octets 0")
	}
}

// P5.2, P5.3: the public keys whose result are octets 0 with all secrets.
func TestSharedOfOctets0(t *testing.T) {
	list := []*big.Int{big.NewInt(0), big.NewInt(1), near(modulus(), -1), modulus(), near(modulus(), 1)}
	for _, s := range []string{
		"e0eb7a7c3b41b8ae1656e3faf19fc46ada098deb9c32b1fd866205165f49b800",
		"5f9c95bca3508c24b1d0b1559c83ef5b04445cc4581c8e86d8224eddd09f1157",
	} {
		list = append(list, bigOf(unhex(t, s)))
	}
	for _, x := range list {
		for _, public := range []string{octetsOf(x), octetsOf(new(big.Int).Add(x, power(255)))} {
			for _, secret := range secrets() {
				if resultWith(secret, public) != zeros(32) || libraryShared(t, secret, public) != "" {
					t.Errorf("the result of %s and %s are not octets 0", octets.Hex(secret), octets.Hex(public))
				}
				refused(t, "a result of octets 0", secret, public)
			}
		}
	}
}

// P5.3
func TestBothFindTheSame(t *testing.T) {
	list := secrets()
	for seed := range 10 {
		list = append(list, text(32, seed+50))
	}
	for _, a := range list {
		for _, b := range list {
			first, second := shared(t, a, publicOf(t, b)), shared(t, b, publicOf(t, a))
			if first != second {
				t.Errorf("Shared of %s and %s: %s one way, %s the other", octets.Hex(a), octets.Hex(b), octets.Hex(first), octets.Hex(second))
			}
		}
	}
}

// P5.3: a bit of a secret key matters if and only if it is not one that clamping makes 0 or 1.
func TestEachBitOfASecret(t *testing.T) {
	secret, public := text(32, 1), text(32, 2)
	clamped, e := Clamp(secret)
	if e != api.OK {
		t.Fatalf("Clamp: error %d", e)
	}
	first := shared(t, secret, public)
	if shared(t, clamped, public) != first || publicOf(t, clamped) != publicOf(t, secret) {
		t.Errorf("%s and %s have other results", octets.Hex(secret), octets.Hex(clamped))
	}
	for bit := range 256 {
		other := changed(secret, bit/8, bit%8)
		same := bit < 3 || bit > 253
		if got, e := Clamp(other); (got == clamped) != same || e != api.OK {
			t.Errorf("Clamp with the bit %d changed: %s, error %d", bit, octets.Hex(got), e)
		}
		if got := shared(t, other, public); (got == first) != same {
			t.Errorf("Shared with the bit %d of the secret key changed: %s, before it %s", bit, octets.Hex(got), octets.Hex(first))
		}
		if got := publicOf(t, other); (got == publicOf(t, secret)) != same {
			t.Errorf("Public with the bit %d changed: %s", bit, octets.Hex(got))
		}
	}
}

// P5.3: of the bits of a public key only the greatest one does not matter.
func TestEachBitOfAPublicKey(t *testing.T) {
	for seed := range 3 {
		secret, public := text(32, seed), text(32, seed+3)
		first := shared(t, secret, public)
		for bit := range 256 {
			got := shared(t, secret, changed(public, bit/8, bit%8))
			if same := bit == 255; (got == first) != same {
				t.Errorf("Shared with the bit %d of the public key changed: %s, before it %s", bit, octets.Hex(got), octets.Hex(first))
			}
		}
	}
}

// P5.3: of the numbers that are not less than p, all that there are.
func TestPublicKeysNotLessThanTheModulus(t *testing.T) {
	for n := int64(2); n < 19; n++ {
		public, other := octetsOf(big.NewInt(n)), octetsOf(near(modulus(), n))
		for _, secret := range secrets() {
			if got, want := shared(t, secret, other), shared(t, secret, public); got != want {
				t.Errorf("Shared of %s and of p and %d: %s, and of %d: %s", octets.Hex(secret), n, octets.Hex(got), n, octets.Hex(want))
			}
		}
	}
}

// P5.3
func TestTheOrderOfTwoSecrets(t *testing.T) {
	for seed := range 40 {
		a, b := text(32, seed), text(32, seed+40)
		for _, public := range []string{text(32, seed+80), full(31) + "\x00", "\x02" + zeros(31), nine()} {
			first, second := shared(t, a, shared(t, b, public)), shared(t, b, shared(t, a, public))
			if first != second {
				t.Errorf("%s and %s, applied to %s: %s one way, %s the other", octets.Hex(a), octets.Hex(b), octets.Hex(public), octets.Hex(first), octets.Hex(second))
			}
		}
	}
}

// P5.1, P5.2: the results are those of the chapter's text, for all arguments.
func FuzzShared(f *testing.F) {
	f.Add(nine(), nine())
	f.Add(full(32), full(32))
	f.Add(zeros(32), zeros(32))
	f.Add(zeros(31), zeros(33))
	f.Add(text(32, 1), text(32, 2))
	f.Fuzz(func(t *testing.T, secret, public string) {
		s, e := Shared(secret, public)
		if len(secret) != 32 || len(public) != 32 {
			if s != "" || e != api.ErrArg {
				t.Errorf("Shared of %d octets and %d: %q, error %d", len(secret), len(public), s, e)
			}
			return
		}
		want, wrong := resultWith(secret, public), api.OK
		if want == zeros(32) {
			want, wrong = "", api.ErrArg
		}
		if s != want || e != wrong {
			t.Errorf("Shared(%s, %s): %s, error %d", octets.Hex(secret), octets.Hex(public), octets.Hex(s), e)
		}
	})
}
