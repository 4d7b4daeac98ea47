package seal

import (
	"math/big"
	"slices"
	"strings"
	"testing"

	"tannoy/api"
	"tannoy/octets"
)

// text returns n octets of many values, which are not those of another seed.
func text(n, seed int) string {
	b := make([]byte, n)
	x := uint32(2*seed + 1)
	for i := range b {
		x = x*1664525 + 1013904223
		b[i] = byte(x >> 24)
	}
	return string(b)
}

func unhex(t *testing.T, s string) string {
	t.Helper()
	out, e := octets.Unhex(s)
	if e != api.OK {
		t.Fatalf("Unhex(%s): error %d", s, e)
	}
	return out
}

func zeros(n int) string {
	return strings.Repeat("\x00", n)
}

func full(n int) string {
	return strings.Repeat("\xff", n)
}

// power is 2^n.
func power(n uint) *big.Int {
	return new(big.Int).Lsh(big.NewInt(1), n)
}

func modulus() *big.Int {
	return new(big.Int).Sub(power(130), big.NewInt(5))
}

// bigOf is the number of s, with the first octet counting least.
func bigOf(s string) *big.Int {
	b := []byte(s)
	slices.Reverse(b)
	return new(big.Int).SetBytes(b)
}

// lowOf returns the 16 octets of n, which is not less than 0, divided by 2^128.
func lowOf(n *big.Int) string {
	b := new(big.Int).Mod(n, power(128)).FillBytes(make([]byte, 16))
	slices.Reverse(b)
	return string(b)
}

// tagWith is the tag of s, made with the library's numbers.
func tagWith(key, s string) string {
	mask, _ := new(big.Int).SetString("0ffffffc0ffffffc0ffffffc0fffffff", 16)
	r := new(big.Int).And(bigOf(key[:16]), mask)
	a := new(big.Int)
	for piece := range slices.Chunk([]byte(s), 16) {
		a.Add(a, bigOf(string(piece)+"\x01"))
		a.Mul(a, r)
		a.Mod(a, modulus())
	}
	return lowOf(a.Add(a, bigOf(key[16:])))
}

// P4.1
func TestTagOfKnownTexts(t *testing.T) {
	one, two, none, all := "01"+strings.Repeat("00", 15), "02"+strings.Repeat("00", 15), strings.Repeat("00", 16), strings.Repeat("ff", 16)
	mixed := "0100000000000000" + "0400000000000000" + none
	for _, x := range []struct{ key, s, want string }{
		{"85d6be7857556d337f4452fe42d506a80103808afb0db2fd4abff6af4149f51b", octets.Hex("Cryptographic Forum Research Group"), "a8061dc1305136c6c22b8baf0c0127a9"},
		{
			"1c9240a5eb55d38af333888604f6b5f0473917c1402b80099dca5cbc207075c0",
			octets.Hex("'Twas brillig, and the slithy toves\nDid gyre and gimble in the wabe:\nAll mimsy were the borogoves,\nAnd the mome raths outgrabe."),
			"4541669a7eaaee61e708dc7cbcc5eb62",
		},
		{none + none, octets.Hex("anything"), none},
		{none + none, "", none},
		{none + all, octets.Hex("anything"), all},
		{all + all, "", all},
		{all + all, strings.Repeat("ff", 17), "7cfe7ff768f81f2763f8bf565df85f86"},
		{all + all, octets.Hex(zeros(4096)), "a2a0a0d6bf6d5ed97acc5104155910eb"},
		{two + none, all, "03" + none[2:]},
		{two + all, two, "03" + none[2:]},
		{one + none, all + "f0" + all[2:] + "11" + none[2:], "05" + none[2:]},
		{one + none, all + "fb" + strings.Repeat("fe", 15) + strings.Repeat("01", 16), none},
		{two + none, "fd" + all[2:], "fa" + all[2:]},
		{mixed, "e33594d7505e43b900000000000000003394d7505e4379cd0100000000000000" + none + one, "14000000000000005500000000000000"},
		{mixed, "e33594d7505e43b900000000000000003394d7505e4379cd0100000000000000" + none, "13000000000000000000000000000000"},
	} {
		s, e := Tag(unhex(t, x.key), unhex(t, x.s))
		if octets.Hex(s) != x.want || e != api.OK {
			t.Errorf("Tag(%s, %s): %s, error %d", x.key, x.s, octets.Hex(s), e)
		}
	}
}

// sizes are numbers of octets: all ways in which the last piece may end, and the greatest ones.
func sizes() []int {
	list := []int{255, 256, 257, 1000, 1200, 4079, 4080, 4081, 4095, 4096}
	for n := range 100 {
		list = append(list, n)
	}
	return list
}

// P4.1
func TestTag(t *testing.T) {
	for _, n := range sizes() {
		for seed := range 20 {
			key, s := text(32, seed), text(n, seed+n)
			if got, e := Tag(key, s); got != tagWith(key, s) || e != api.OK {
				t.Errorf("Tag(%q) of %d octets: %s, error %d", key, n, octets.Hex(got), e)
			}
		}
	}
}

// P4.1: the greatest numbers and the least ones, at any length.
func TestTagOfGreatNumbers(t *testing.T) {
	parts := []string{zeros(16), full(16), "\x01" + zeros(15), zeros(15) + "\x80", text(16, 3)}
	for _, r := range parts {
		for _, last := range parts {
			for _, n := range sizes() {
				for _, s := range []string{full(n), zeros(n), strings.Repeat("\xff\x00", n/2)} {
					if got, e := Tag(r+last, s); got != tagWith(r+last, s) || e != api.OK {
						t.Errorf("Tag(%q) of %d octets: %s, error %d", r+last, n, octets.Hex(got), e)
					}
				}
			}
		}
	}
}

// P4.1: with the factor 1 the pieces are summed up, here to sums around the multiples of 2^130 - 5, and of 2^130.
func TestTagAroundTheModulus(t *testing.T) {
	one := "\x01" + zeros(15)
	for times := int64(1); times <= 20; times++ {
		for offset := int64(-40); offset <= 40; offset++ {
			sum := new(big.Int).Mul(modulus(), big.NewInt(times))
			sum.Add(sum, big.NewInt(offset))
			s := piecesOfSum(t, sum)
			for _, last := range []string{zeros(16), full(16), text(16, int(offset)+100)} {
				want := lowOf(new(big.Int).Add(new(big.Int).Mod(sum, modulus()), bigOf(last)))
				if got, e := Tag(one+last, s); got != want || e != api.OK {
					t.Errorf("Tag of pieces with the sum %d times the modulus and %d: %s, error %d", times, offset, octets.Hex(got), e)
				}
			}
		}
	}
}

// piecesOfSum returns pieces whose numbers, each with its octet 1, have the sum, which is at least 2^129.
func piecesOfSum(t *testing.T, sum *big.Int) string {
	t.Helper()
	least, most := power(128), new(big.Int).Sub(power(129), big.NewInt(1))
	left, out := new(big.Int).Set(sum), ""
	for others := new(big.Int).Div(sum, least).Int64() - 1; others >= 0; others-- {
		// Each of the others needs its octet 1.
		now := new(big.Int).Sub(left, new(big.Int).Mul(least, big.NewInt(others)))
		if now.Cmp(most) > 0 {
			now.Set(most)
		}
		out += lowOf(now)
		left.Sub(left, now)
	}
	if left.Sign() != 0 {
		t.Fatalf("no pieces have the sum %d", sum)
	}
	return out
}

// P4.1: 22 bits of a key do not count, and each of the others does.
func TestTagOfEachBitOfTheKey(t *testing.T) {
	cleared := map[int]byte{3: 0xf0, 7: 0xf0, 11: 0xf0, 15: 0xf0, 4: 3, 8: 3, 12: 3}
	s := text(100, 1)
	for seed := range 5 {
		key := text(32, seed)
		first, e := Tag(key, s)
		if e != api.OK {
			t.Fatalf("Tag: error %d", e)
		}
		for i := range key {
			for bit := range 8 {
				b := []byte(key)
				b[i] ^= 1 << bit
				got, e := Tag(string(b), s)
				if same := cleared[i]>>bit&1 == 1; (got == first) != same || e != api.OK {
					t.Errorf("Tag with the bit %d of the octet %d changed: %s, error %d, before it %s", bit, i, octets.Hex(got), e, octets.Hex(first))
				}
			}
		}
	}
}

// P4.1: octets 0 at the end count.
func TestTagOfOctets0(t *testing.T) {
	key := text(32, 1)
	seen := map[string]int{}
	for n := range 100 {
		tag, e := Tag(key, zeros(n))
		if e != api.OK {
			t.Fatalf("Tag of %d octets 0: error %d", n, e)
		}
		if m, ok := seen[tag]; ok {
			t.Errorf("Tag of %d octets 0 is the one of %d", n, m)
		}
		seen[tag] = n
	}
}

// P4.1: the key is looked at first.
func TestTagErrors(t *testing.T) {
	key := text(32, 1)
	for _, n := range []int{0, 1, 12, 16, 31, 33, 64, 4097} {
		for _, m := range []int{0, 1, 4096, 4097, 1 << 20} {
			if s, e := Tag(text(n, 2), text(m, 3)); s != "" || e != api.ErrArg {
				t.Errorf("Tag with a key of %d octets, of %d octets: %q, error %d", n, m, s, e)
			}
		}
	}
	for _, n := range []int{4097, 4112, 1 << 20} {
		if s, e := Tag(key, text(n, 3)); s != "" || e != api.ErrLong {
			t.Errorf("Tag of %d octets: %q, error %d", n, s, e)
		}
	}
}
