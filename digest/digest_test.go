package digest

import (
	"crypto/sha256"
	"encoding"
	"encoding/binary"
	"hash"
	"math"
	"math/big"
	"strings"
	"testing"

	"tannoy/api"
	"tannoy/octets"
)

// text returns n octets of many values, which are not those of another seed.
func text(n, seed int) string {
	b := make([]byte, n)
	x := uint32(2*seed + 1)
	for i := range b {
		x = x*1664525 + 1013904223
		b[i] = byte(x >> 24)
	}
	return string(b)
}

// sumOf is the digest of s, made by the library.
func sumOf(s string) string {
	sum := sha256.Sum256([]byte(s))
	return string(sum[:])
}

func hexOf(t *testing.T, s string, e api.Errno) string {
	t.Helper()
	if e != api.OK {
		t.Errorf("error %d", e)
	}
	return octets.Hex(s)
}

// libraryHash returns the library's digest at the same place as h, which is valid.
func libraryHash(t *testing.T, h api.Hash) hash.Hash {
	t.Helper()
	state := []byte("sha\x03")
	for _, word := range h.Words {
		state = binary.BigEndian.AppendUint32(state, word)
	}
	state = append(state, h.Tail...)
	state = append(state, make([]byte, 64-len(h.Tail))...)
	state = binary.BigEndian.AppendUint64(state, uint64(h.Count))
	d := sha256.New()
	if err := d.(encoding.BinaryUnmarshaler).UnmarshalBinary(state); err != nil {
		t.Fatal(err)
	}
	return d
}

// hashOf returns what the library's digest stands for.
func hashOf(t *testing.T, d hash.Hash) api.Hash {
	t.Helper()
	state, err := d.(encoding.BinaryMarshaler).MarshalBinary()
	if err != nil {
		t.Fatal(err)
	}
	state = state[4:]
	var h api.Hash
	for i := range h.Words {
		h.Words[i] = binary.BigEndian.Uint32(state[4*i:])
	}
	h.Count = int(binary.BigEndian.Uint64(state[32+64:]))
	h.Tail = string(state[32:][:h.Count%64])
	return h
}

// someHashes returns valid digests, whose words are not always those of any octets.
func someHashes() []api.Hash {
	l := []api.Hash{Start(), {}}
	words := [8]uint32{0, math.MaxUint32, 1 << 31, 1, 0x01234567, 0x89abcdef, 2, 3}
	for _, count := range []int{0, 1, 55, 56, 63, 64, 65, 119, 120, 127, 128, 4096, 1<<29 - 1, 1 << 29, 1<<32 + 57, 1<<40 - 4096, 1<<40 - 64, 1<<40 - 63, 1<<40 - 9, 1<<40 - 1, 1 << 40} {
		l = append(l, api.Hash{Words: words, Tail: text(count%64, count), Count: count})
		l = append(l, api.Hash{Words: Start().Words, Tail: text(count%64, count+1), Count: count})
	}
	return l
}

// wrongHashes returns digests that are not valid.
func wrongHashes() []api.Hash {
	l := []api.Hash{
		{Count: 1},
		{Tail: "a"},
		{Tail: "a", Count: 2},
		{Tail: "ab", Count: 1},
		{Tail: strings.Repeat("a", 64), Count: 64},
		{Tail: strings.Repeat("a", 65), Count: 65},
		{Tail: strings.Repeat("a", 63), Count: 64},
		{Tail: "", Count: 63},
		{Tail: "", Count: -64},
		{Tail: "a", Count: -63},
		{Tail: "a", Count: -1},
		{Tail: strings.Repeat("a", 63), Count: -1},
		{Tail: strings.Repeat("a", 63), Count: -63},
		{Tail: "", Count: math.MinInt},
		{Tail: "a", Count: 1<<40 + 1},
		{Tail: "", Count: 1<<40 + 64},
		{Tail: strings.Repeat("a", 63), Count: math.MaxInt},
		{Tail: "", Count: math.MaxInt - 63},
		{Tail: strings.Repeat("a", 5000), Count: 5000},
	}
	for i := range l {
		l = append(l, api.Hash{Words: Start().Words, Tail: l[i].Tail, Count: l[i].Count})
	}
	return l
}

// isRoot tells whether word is the fractional part, in 2^32nds and rounded down, of the root of p.
func isRoot(word uint32, p int64, degree int64) bool {
	power := func(x int64) *big.Int {
		return new(big.Int).Exp(big.NewInt(x), big.NewInt(degree), nil)
	}
	limit := new(big.Int).Lsh(big.NewInt(p), uint(32*degree))
	for whole := range int64(8) {
		x := whole<<32 | int64(word)
		if power(x).Cmp(limit) <= 0 && power(x+1).Cmp(limit) > 0 {
			return true
		}
	}
	return false
}

// The constants, by their definition.
func TestConstants(t *testing.T) {
	var primes []int64
	for n := int64(2); len(primes) < 64; n++ {
		if big.NewInt(n).ProbablyPrime(20) {
			primes = append(primes, n)
		}
	}
	for i, word := range squareRoots() {
		if !isRoot(word, primes[i], 2) {
			t.Errorf("start word %d: %#x", i, word)
		}
	}
	for i, word := range cubeRoots() {
		if !isRoot(word, primes[i], 3) {
			t.Errorf("constant %d: %#x", i, word)
		}
	}
}

// P2.1
func TestStart(t *testing.T) {
	want := api.Hash{Words: [8]uint32{
		0x6a09e667, 0xbb67ae85, 0x3c6ef372, 0xa54ff53a, 0x510e527f, 0x9b05688c, 0x1f83d9ab, 0x5be0cd19,
	}}
	if h := Start(); h != want {
		t.Errorf("Start: %#x, %q, %d", h.Words, h.Tail, h.Count)
	}
}

// P2.1
func TestHashNotValid(t *testing.T) {
	for _, h := range wrongHashes() {
		if e := Check(h); e != api.ErrArg {
			t.Errorf("Check(%v): error %d", h, e)
		}
		// The state's error comes before that of the string.
		for _, s := range []string{"", "a", strings.Repeat("a", 4096), strings.Repeat("a", 4097)} {
			if next, e := More(h, s); next != (api.Hash{}) || e != api.ErrArg {
				t.Errorf("More(%v, %d octets): %v, error %d", h, len(s), next, e)
			}
		}
		if s, e := End(h); s != "" || e != api.ErrArg {
			t.Errorf("End(%v): %q, error %d", h, s, e)
		}
	}
}

// P2.1
func TestCheck(t *testing.T) {
	for _, h := range someHashes() {
		if e := Check(h); e != api.OK {
			t.Errorf("Check(%v): error %d", h, e)
		}
	}
}

// P2.1
func TestMore(t *testing.T) {
	for _, h := range someHashes() {
		for _, n := range []int{0, 1, 2, 7, 8, 9, 62, 63, 64, 65, 127, 128, 129, 1000, 4095, 4096} {
			s := text(n, n)
			want, wrong := api.Hash{}, api.OK
			if h.Count+n > 1<<40 {
				wrong = api.ErrBig
			} else {
				d := libraryHash(t, h)
				d.Write([]byte(s))
				want = hashOf(t, d)
			}
			next, e := More(h, s)
			if next != want || e != wrong {
				t.Errorf("More(%v, %d octets): %v, error %d", h, n, next, e)
			}
			// What is returned as a state is valid.
			if Check(next) != api.OK {
				t.Errorf("More(%v, %d octets) is not valid: %v", h, n, next)
			}
		}
		// Too long a string is found before too great a number.
		for _, n := range []int{4097, 5000, 1 << 16} {
			if next, e := More(h, text(n, n)); next != (api.Hash{}) || e != api.ErrLong {
				t.Errorf("More(%v, %d octets): %v, error %d", h, n, next, e)
			}
		}
	}
}

// P2.1
func TestMoreUpToTheLimit(t *testing.T) {
	h := api.Hash{Count: 1<<40 - 64}
	if next, e := More(h, text(65, 0)); next != (api.Hash{}) || e != api.ErrBig {
		t.Errorf("65 octets: %v, error %d", next, e)
	}
	next, e := More(h, text(64, 0))
	if next.Count != 1<<40 || next.Tail != "" || e != api.OK {
		t.Errorf("64 octets: %v, error %d", next, e)
	}
	if again, e := More(next, ""); again != next || e != api.OK {
		t.Errorf("nothing at the limit: %v, error %d", again, e)
	}
	if again, e := More(next, "a"); again != (api.Hash{}) || e != api.ErrBig {
		t.Errorf("an octet at the limit: %v, error %d", again, e)
	}
}

// P2.1
func TestEnd(t *testing.T) {
	for _, h := range someHashes() {
		want := string(libraryHash(t, h).Sum(nil))
		if s, e := End(h); s != want || e != api.OK {
			t.Errorf("End(%v): %s, error %d", h, octets.Hex(s), e)
		}
	}
	for n := range 200 {
		h, e := More(Start(), text(n, n))
		if e != api.OK {
			t.Errorf("More of %d octets: error %d", n, e)
		}
		if s, e := End(h); s != sumOf(text(n, n)) || e != api.OK {
			t.Errorf("End of %d octets: %s, error %d", n, octets.Hex(s), e)
		}
	}
}

// P2.2
func TestSum(t *testing.T) {
	for _, x := range []struct{ s, want string }{
		{"", "e3b0c44298fc1c149afbf4c8996fb92427ae41e4649b934ca495991b7852b855"},
		{"abc", "ba7816bf8f01cfea414140de5dae2223b00361a396177a9cb410ff61f20015ad"},
		{"abcdbcdecdefdefgefghfghighijhijkijkljklmklmnlmnomnopnopq", "248d6a61d20638b8e5c026930c3e6039a33ce45964ff2167f6ecedd419db06c1"},
	} {
		s, e := Sum(x.s)
		if got := hexOf(t, s, e); got != x.want {
			t.Errorf("Sum(%s): %s", x.s, got)
		}
	}
	// All ways in which octets may end within a block, and the longest strings.
	for n := range 260 {
		if s, e := Sum(text(n, n)); s != sumOf(text(n, n)) || e != api.OK {
			t.Errorf("Sum of %d octets: %s, error %d", n, octets.Hex(s), e)
		}
	}
	for _, n := range []int{1000, 4000, 4095, 4096} {
		for _, s := range []string{text(n, 1), strings.Repeat("\x00", n), strings.Repeat("\xff", n)} {
			if got, e := Sum(s); got != sumOf(s) || e != api.OK {
				t.Errorf("Sum of %d octets: %s, error %d", n, octets.Hex(got), e)
			}
		}
	}
}

// P2.2
func TestSumOfTooMuch(t *testing.T) {
	for _, n := range []int{4097, 4160, 1 << 20} {
		if s, e := Sum(text(n, 0)); s != "" || e != api.ErrLong {
			t.Errorf("Sum of %d octets: %q, error %d", n, s, e)
		}
	}
}

// P2.4: every cut into two pieces, and cuts into pieces of one size.
func TestPiecesMakeTheSameDigest(t *testing.T) {
	whole := text(200, 3)
	want, _ := Sum(whole)
	for at := 0; at <= len(whole); at++ {
		h, e := More(Start(), whole[:at])
		if e != api.OK {
			t.Fatalf("More: error %d", e)
		}
		h, e = More(h, whole[at:])
		if e != api.OK {
			t.Fatalf("More: error %d", e)
		}
		if s, e := End(h); s != want || e != api.OK {
			t.Errorf("cut at %d: %s, error %d", at, octets.Hex(s), e)
		}
	}
	long := text(4096, 4)
	want, _ = Sum(long)
	for _, size := range []int{1, 3, 31, 63, 64, 65, 100, 2000} {
		h := Start()
		for at := 0; at < len(long); at += size {
			var e api.Errno
			if h, e = More(h, long[at:min(at+size, len(long))]); e != api.OK {
				t.Fatalf("More: error %d", e)
			}
		}
		if s, e := End(h); s != want || e != api.OK {
			t.Errorf("pieces of %d: %s, error %d", size, octets.Hex(s), e)
		}
	}
}

// P2.4: pieces together may be longer than one string.
func TestPiecesBeyondTheLongestString(t *testing.T) {
	h, whole := Start(), ""
	for i := range 10 {
		piece := text(4096-i, i)
		var e api.Errno
		if h, e = More(h, piece); e != api.OK {
			t.Fatalf("More: error %d", e)
		}
		whole += piece
	}
	if s, e := End(h); s != sumOf(whole) || e != api.OK {
		t.Errorf("End: %s, error %d", octets.Hex(s), e)
	}
	if h.Count != len(whole) {
		t.Errorf("Count %d of %d octets", h.Count, len(whole))
	}
}
