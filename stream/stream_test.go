package stream

import (
	"encoding/binary"
	"math"
	"strings"
	"testing"

	"tannoy/api"
	"tannoy/octets"
)

const top = 1<<32 - 1

// text returns n octets of many values, which are not those of another seed.
func text(n, seed int) string {
	b := make([]byte, n)
	x := uint32(2*seed + 1)
	for i := range b {
		x = x*1664525 + 1013904223
		b[i] = byte(x >> 24)
	}
	return string(b)
}

func unhex(t *testing.T, s string) string {
	t.Helper()
	out, e := octets.Unhex(s)
	if e != api.OK {
		t.Fatalf("Unhex(%s): error %d", s, e)
	}
	return out
}

func zeros(n int) string {
	return strings.Repeat("\x00", n)
}

// counting returns the octets 0, 1 and so on, the chapter's key.
func counting() string {
	b := make([]byte, 32)
	for i := range b {
		b[i] = byte(i)
	}
	return string(b)
}

// blockOf is the block, made by rows: the diagonals are columns once the rows have been turned.
func blockOf(key, nonce string, counter int) string {
	all := []byte("expand 32-byte k" + key)
	all = binary.LittleEndian.AppendUint32(all, uint32(counter))
	all = append(all, nonce...)
	var rows [4][4]uint32
	for i := range 16 {
		rows[i/4][i%4] = binary.LittleEndian.Uint32(all[4*i:])
	}
	start := rows
	change := func(x, y, z, k int) {
		for i := range 4 {
			rows[x][i] += rows[y][i]
			w := rows[z][i] ^ rows[x][i]
			rows[z][i] = w<<k | w>>(32-k)
		}
	}
	for half := range 20 {
		change(0, 1, 3, 16)
		change(2, 3, 1, 12)
		change(0, 1, 3, 8)
		change(2, 3, 1, 7)
		for y := 1; y < 4; y++ {
			by := y
			if half%2 == 1 {
				by = 4 - y
			}
			row := rows[y]
			for i := range 4 {
				rows[y][i] = row[(i+by)%4]
			}
		}
	}
	var out []byte
	for i := range 16 {
		out = binary.LittleEndian.AppendUint32(out, rows[i/4][i%4]+start[i/4][i%4])
	}
	return string(out)
}

// applied is s with the stream applied to it, an octet at a time.
func applied(key, nonce string, counter int, s string) string {
	out, block := []byte(s), ""
	for i := range out {
		if i%64 == 0 {
			block = blockOf(key, nonce, counter+i/64)
		}
		out[i] ^= block[i%64]
	}
	return string(out)
}

type keyed struct {
	key, nonce string
	counter    int
}

// wrongs returns arguments of which at least one is not what it must be.
func wrongs() []keyed {
	key, nonce := text(32, 1), text(12, 2)
	var l []keyed
	for _, n := range []int{0, 1, 12, 16, 31, 33, 64, 5000} {
		l = append(l, keyed{text(n, 3), nonce, 0})
	}
	for _, n := range []int{0, 1, 8, 11, 13, 16, 24, 32, 5000} {
		l = append(l, keyed{key, text(n, 4), 0})
	}
	for _, n := range []int{-1, 1 << 32, 1<<32 + 1, math.MinInt, math.MinInt32, math.MaxInt, -(1 << 32), 1 << 40} {
		l = append(l, keyed{key, nonce, n})
	}
	return append(l, keyed{}, keyed{nonce, key, 0}, keyed{key + "\x00", nonce, top}, keyed{key, nonce[1:], 1 << 32})
}

// P3.1
func TestBlockOfKnownTexts(t *testing.T) {
	for _, x := range []struct {
		key, nonce string
		counter    int
		want       string
	}{
		{
			octets.Hex(counting()), "000000090000004a00000000", 1,
			"10f1e7e4d13b5915500fdd1fa32071c4c7d1f4c733c068030422aa9ac3d46c4ed2826446079faa0914c2d705d98b02a2b5129cd1de164eb9cbd083e8a2503c4e",
		},
		{
			octets.Hex(zeros(32)), "000000000000000000000000", 0,
			"76b8e0ada0f13d90405d6ae55386bd28bdd219b8a08ded1aa836efcc8b770dc7da41597c5157488d7724e03fb8d84a376a43b8f41518a11cc387b669b2ee6586",
		},
		{
			octets.Hex(zeros(32)), "000000000000000000000000", 1,
			"9f07e7be5551387a98ba977c732d080dcb0f29a048e3656912c6533e32ee7aed29b721769ce64e43d57133b074d839d531ed1f28510afb45ace10a1f4b794d6f",
		},
		{
			octets.Hex(zeros(31)) + "01", "000000000000000000000000", 1,
			"3aeb5224ecf849929b9d828db1ced4dd832025e8018b8160b82284f3c949aa5a8eca00bbb4a73bdad192b5c42f73f2fd4e273644c8b36125a64addeb006c13a0",
		},
		{
			"00ff" + octets.Hex(zeros(30)), "000000000000000000000000", 2,
			"72d54dfbf12ec44b362692df94137f328fea8da73990265ec1bbbea1ae9af0ca13b25aa26cb4a648cb9b9d1be65b2c0924a66c54d545ec1b7374f4872e99f096",
		},
		{
			octets.Hex(zeros(32)), "000000000000000000000002", 0,
			"c2c64d378cd536374ae204b9ef933fcd1a8b2288b3dfa49672ab765b54ee27c78a970e0e955c14f3a88e741b97c286f75f8fc299e8148362fa198a39531bed6d",
		},
		{
			octets.Hex(counting()), "000000090000004a00000000", top,
			"ff2941b8d740f6cbb50936bf997ebd5218cb108dc53f41c64841d0218167430ca03b770ca74ccb642a28194d1dedd2ed13151e25ec5d7faeb6d060bfb7e6b146",
		},
		{
			strings.Repeat("ff", 32), strings.Repeat("ff", 12), top,
			"d72b21cfa4b6b0c41d61f62b8a11159c6a4f63bc56c2035796c7ad37811121bbec56d54a530f3a933dd28a50feb23bfaf64f405be985f3718bdf4683e96be749",
		},
	} {
		s, e := Block(unhex(t, x.key), unhex(t, x.nonce), x.counter)
		if octets.Hex(s) != x.want || e != api.OK {
			t.Errorf("Block(%s, %s, %d): %s, error %d", x.key, x.nonce, x.counter, octets.Hex(s), e)
		}
	}
}

// P3.1
func TestBlock(t *testing.T) {
	for seed := range 50 {
		key, nonce := text(32, seed), text(12, seed+100)
		for _, counter := range []int{0, 1, 2, 255, 256, 65535, 65536, 1 << 24, math.MaxInt32, 1 << 31, 0x01234567, 0x89abcdef, top - 1, top} {
			if s, e := Block(key, nonce, counter); s != blockOf(key, nonce, counter) || e != api.OK {
				t.Errorf("Block(%q, %q, %d): %s, error %d", key, nonce, counter, octets.Hex(s), e)
			}
		}
	}
}

// P3.1: each octet of the key and the nonce counts.
func TestBlockOfSingleOctets(t *testing.T) {
	for i := range 32 + 12 {
		for _, c := range []byte{1, 127, 128, 255} {
			all := make([]byte, 32+12)
			all[i] = c
			key, nonce := string(all[:32]), string(all[32:])
			if s, e := Block(key, nonce, 0); s != blockOf(key, nonce, 0) || e != api.OK {
				t.Errorf("Block with %d at %d: %s, error %d", c, i, octets.Hex(s), e)
			}
		}
	}
}

// P3.1
func TestBlockOfWrongArguments(t *testing.T) {
	for _, x := range wrongs() {
		if s, e := Block(x.key, x.nonce, x.counter); s != "" || e != api.ErrArg {
			t.Errorf("Block(%q, %q, %d): %q, error %d", x.key, x.nonce, x.counter, s, e)
		}
	}
}

// P3.2
func TestApplyToKnownTexts(t *testing.T) {
	nonce := unhex(t, "000000090000004a00000000")
	for _, x := range []struct {
		nonce, s string
		counter  int
		want     string
	}{
		{nonce, zeros(4), 1, "10f1e7e4"},
		{nonce, "\x10\xf1", 1, "0000"},
		{nonce, "", 1, ""},
		{
			unhex(t, "000000000000004a00000000"),
			"Ladies and Gentlemen of the class of '99: If I could offer you only one tip for the future, sunscreen would be it.", 1,
			"6e2e359a2568f98041ba0728dd0d6981e97e7aec1d4360c20a27afccfd9fae0bf91b65c5524733ab8f593dabcd62b3571639d624e65152ab8f530c359f0861d807ca0dbf500d6a6156a38e088a22b65e52bc514d16ccf806818ce91ab77937365af90bbf74a35be6b40b8eedf2785e42874d",
		},
	} {
		s, e := Apply(counting(), x.nonce, x.counter, x.s)
		if octets.Hex(s) != x.want || e != api.OK {
			t.Errorf("Apply with the counter %d to %q: %s, error %d", x.counter, x.s, octets.Hex(s), e)
		}
	}
}

// P3.2: all ways in which octets may end within a block, and the longest strings.
func TestApply(t *testing.T) {
	sizes := []int{255, 256, 257, 1000, 1200, 4032, 4033, 4095, 4096}
	for n := range 200 {
		sizes = append(sizes, n)
	}
	for _, n := range sizes {
		key, nonce, s := text(32, n), text(12, n+1), text(n, n+2)
		for _, counter := range []int{0, 1, 255, math.MaxInt32, top - 64, top - 63} {
			if got, e := Apply(key, nonce, counter, s); got != applied(key, nonce, counter, s) || e != api.OK {
				t.Errorf("Apply with the counter %d to %d octets: %s, error %d", counter, n, octets.Hex(got), e)
			}
		}
	}
}

// P3.2
func TestApplyToTheLastBlocks(t *testing.T) {
	key, nonce := text(32, 1), text(12, 2)
	for before := range 66 {
		for _, n := range []int{0, 1, 63, 64, 65, 127, 128, 129, 64*before + 1, 64*before + 63, 64*before + 64, 64*before + 65, 4032, 4033, 4095, 4096} {
			if n > 4096 {
				continue
			}
			s := text(n, 3)
			want, wrong := "", api.ErrBig
			if n <= 64*(before+1) {
				want, wrong = applied(key, nonce, top-before, s), api.OK
			}
			if got, e := Apply(key, nonce, top-before, s); got != want || e != wrong {
				t.Errorf("Apply %d before the last counter, to %d octets: %s, error %d", before, n, octets.Hex(got), e)
			}
		}
	}
}

// P3.2: what an argument is comes first, then how long the octets are, then how many blocks they need.
func TestApplyErrors(t *testing.T) {
	key, nonce := text(32, 1), text(12, 2)
	for _, x := range wrongs() {
		for _, n := range []int{0, 1, 65, 4096, 4097, 1 << 20} {
			if s, e := Apply(x.key, x.nonce, x.counter, text(n, 5)); s != "" || e != api.ErrArg {
				t.Errorf("Apply(%q, %q, %d) to %d octets: %q, error %d", x.key, x.nonce, x.counter, n, s, e)
			}
		}
	}
	for _, n := range []int{4097, 4160, 1 << 20} {
		for _, counter := range []int{0, 1, top - 64, top - 1, top} {
			if s, e := Apply(key, nonce, counter, text(n, 5)); s != "" || e != api.ErrLong {
				t.Errorf("Apply with the counter %d to %d octets: %q, error %d", counter, n, s, e)
			}
		}
	}
	if s, e := Apply(key, nonce, top, text(65, 5)); s != "" || e != api.ErrBig {
		t.Errorf("Apply with the last counter to 65 octets: %q, error %d", s, e)
	}
}

// P3.3
func TestApplyingTwiceChangesNothing(t *testing.T) {
	key, nonce := text(32, 7), text(12, 8)
	for _, n := range []int{0, 1, 12, 63, 64, 65, 1000, 4096} {
		s := text(n, 9)
		once, e := Apply(key, nonce, 1000, s)
		if e != api.OK {
			t.Fatalf("Apply to %d octets: error %d", n, e)
		}
		if n > 11 && once == s {
			t.Errorf("Apply to %d octets changes nothing", n)
		}
		if twice, e := Apply(key, nonce, 1000, once); twice != s || e != api.OK {
			t.Errorf("Apply twice to %d octets: %s, error %d", n, octets.Hex(twice), e)
		}
	}
}

// P3.3
func TestZerosBecomeTheBlock(t *testing.T) {
	for seed := range 20 {
		key, nonce := text(32, seed), text(12, seed+50)
		for _, counter := range []int{0, 1, 1 << 31, top} {
			block, e := Block(key, nonce, counter)
			if len(block) != 64 || e != api.OK {
				t.Fatalf("Block with the counter %d: %d octets, error %d", counter, len(block), e)
			}
			if s, e := Apply(key, nonce, counter, zeros(64)); s != block || e != api.OK {
				t.Errorf("Apply with the counter %d: %s, error %d", counter, octets.Hex(s), e)
			}
		}
	}
}

// P3.3
func TestTheBeginningStaysAsItIs(t *testing.T) {
	key, nonce, s := text(32, 1), text(12, 2), text(300, 3)
	whole, e := Apply(key, nonce, 5, s)
	if e != api.OK {
		t.Fatalf("Apply: error %d", e)
	}
	for n := range len(s) {
		if got, e := Apply(key, nonce, 5, s[:n]); got != whole[:n] || e != api.OK {
			t.Errorf("Apply to the first %d octets: %s, error %d", n, octets.Hex(got), e)
		}
		if got, e := Apply(key, nonce, 5, s[:n]+text(300-n, 4)); len(got) != 300 || got[:n] != whole[:n] || e != api.OK {
			t.Errorf("Apply to %d octets and others: %s, error %d", n, octets.Hex(got), e)
		}
	}
}

// P3.3
func TestTheNextCounterIs64OctetsFurtherOn(t *testing.T) {
	key, nonce, s := text(32, 1), text(12, 2), text(4096, 3)
	for _, counter := range []int{0, 7, 65535, top - 63} {
		whole, e := Apply(key, nonce, counter, s)
		if len(whole) != len(s) || e != api.OK {
			t.Fatalf("Apply with the counter %d: %d octets, error %d", counter, len(whole), e)
		}
		for i := range 64 {
			if got, e := Apply(key, nonce, counter+i, s[64*i:]); got != whole[64*i:] || e != api.OK {
				t.Errorf("Apply with the counter %d and %d: error %d, or other octets", counter, i, e)
			}
		}
	}
}
