package parity

import (
	"hash/crc32"
	"math"
	"math/bits"
	"strings"
	"testing"

	"tannoy/api"
)

// text returns n octets of many values, which are not those of another seed.
func text(n, seed int) string {
	b := make([]byte, n)
	x := uint32(2*seed + 1)
	for i := range b {
		x = x*1664525 + 1013904223
		b[i] = byte(x >> 24)
	}
	return string(b)
}

func zeros(n int) string {
	return strings.Repeat("\x00", n)
}

func full(n int) string {
	return strings.Repeat("\xff", n)
}

func kinds() []int {
	return []int{api.CrcIeee, api.CrcCast}
}

// wrongKinds are numbers that are not kinds.
func wrongKinds() []int {
	return []int{math.MinInt, -1 << 32, -2, -1, 0, 3, 4, 255, 257, 1<<32 + 1, 1<<32 + 2, math.MaxInt}
}

// wrongChecks are numbers that are not checks.
func wrongChecks() []int {
	return []int{math.MinInt, -1 << 32, -2, -1, 1 << 32, 1<<32 + 1, 1 << 33, math.MaxInt}
}

// checks are some numbers that may be checks, those at the ends among them.
func checks() []int {
	return []int{0, 1, 2, 0xff, 0x100, 0x80000000, 0x7fffffff, 0xedb88320, 0x82f63b78, 0xcbf43926, 0xe3069283, 0xfffffffe, 0xffffffff}
}

// someTexts are octets of many lengths, up to the limit.
func someTexts() []string {
	list := []string{zeros(1), zeros(32), full(1), full(4), full(32), zeros(4096), full(4096), text(4095, 1), text(4096, 2)}
	for n := range 100 {
		list = append(list, text(n, n))
	}
	return list
}

// checkWith is the check as the chapter's text has it, behind octets whose check is crc.
func checkWith(kind, crc int, s string) int {
	constant := map[int]int{api.CrcIeee: 0xedb88320, api.CrcCast: 0x82f63b78}[kind]
	n := crc ^ 0xffffffff
	for _, octet := range []byte(s) {
		n ^= int(octet)
		for range 8 {
			half := n / 2
			if n%2 == 1 {
				half ^= constant
			}
			n = half
		}
	}
	return n ^ 0xffffffff
}

func libraryTable(kind int) *crc32.Table {
	if kind == api.CrcIeee {
		return crc32.MakeTable(crc32.IEEE)
	}
	return crc32.MakeTable(crc32.Castagnoli)
}

// libraryCheck is the library's check, behind octets whose check is crc.
func libraryCheck(kind, crc int, s string) int {
	return int(crc32.Update(uint32(crc), libraryTable(kind), []byte(s)))
}

// checkOf is Crc of octets that must have a check.
func checkOf(t *testing.T, kind int, s string) int {
	t.Helper()
	n, e := Crc(kind, s)
	if e != api.OK {
		t.Fatalf("Crc of %d and %d octets: error %d", kind, len(s), e)
	}
	return n
}

// P6.1
func TestKnownChecks(t *testing.T) {
	for _, x := range []struct {
		text       string
		ieee, cast int
	}{
		{"", 0, 0},
		{"123456789", 0xcbf43926, 0xe3069283},
		{"a", 0xe8b7be43, 0xc1d04330},
		{"abc", 0x352441c2, 0x364b3fb7},
		{"The quick brown fox jumps over the lazy dog", 0x414fa339, 0x22620404},
		{zeros(32), 0x190a55ad, 0x8a9136aa},
		{full(32), 0xff6cab0b, 0x62a8ab43},
		{"\xff\xff\xff\xff", 0xffffffff, 0xffffffff},
	} {
		if n, e := Crc(api.CrcIeee, x.text); n != x.ieee || e != api.OK {
			t.Errorf("Crc of %d, %q: %x, error %d", api.CrcIeee, x.text, n, e)
		}
		if n, e := Crc(api.CrcCast, x.text); n != x.cast || e != api.OK {
			t.Errorf("Crc of %d, %q: %x, error %d", api.CrcCast, x.text, n, e)
		}
	}
	if api.CrcIeee != 1 || api.CrcCast != 2 {
		t.Errorf("the kinds are %d and %d", api.CrcIeee, api.CrcCast)
	}
}

// P6.1: all texts of an octet, and others of many lengths.
func TestCrc(t *testing.T) {
	list := someTexts()
	for octet := range 256 {
		list = append(list, string([]byte{byte(octet)}))
	}
	for _, kind := range kinds() {
		for _, s := range list {
			n, e := Crc(kind, s)
			if n != checkWith(kind, 0, s) || n != libraryCheck(kind, 0, s) || e != api.OK {
				t.Errorf("Crc of %d and %d octets: %x, error %d", kind, len(s), n, e)
			}
		}
	}
}

// P6.1
func TestMore(t *testing.T) {
	if n, e := More(api.CrcIeee, checkOf(t, api.CrcIeee, "1234"), "56789"); n != 0xcbf43926 || e != api.OK {
		t.Errorf("More behind 1234: %x, error %d", n, e)
	}
	for _, kind := range kinds() {
		for _, crc := range checks() {
			for _, s := range someTexts() {
				n, e := More(kind, crc, s)
				if n != checkWith(kind, crc, s) || n != libraryCheck(kind, crc, s) || e != api.OK {
					t.Errorf("More of %d, %x and %d octets: %x, error %d", kind, crc, len(s), n, e)
				}
			}
			if n, e := More(kind, crc, ""); n != crc || e != api.OK {
				t.Errorf("More of %d, %x and nothing: %x, error %d", kind, crc, n, e)
			}
		}
	}
}

// P6.1
func TestChecksOfWrongArguments(t *testing.T) {
	for _, long := range []string{"", "a", text(4096, 1), text(4097, 1), zeros(1 << 20)} {
		for _, kind := range wrongKinds() {
			if n, e := Crc(kind, long); n != 0 || e != api.ErrArg {
				t.Errorf("Crc of %d and %d octets: %x, error %d", kind, len(long), n, e)
			}
			for _, crc := range append(checks(), wrongChecks()...) {
				if n, e := More(kind, crc, long); n != 0 || e != api.ErrArg {
					t.Errorf("More of %d, %x and %d octets: %x, error %d", kind, crc, len(long), n, e)
				}
			}
		}
		for _, kind := range kinds() {
			for _, crc := range wrongChecks() {
				if n, e := More(kind, crc, long); n != 0 || e != api.ErrArg {
					t.Errorf("More of %d, %x and %d octets: %x, error %d", kind, crc, len(long), n, e)
				}
			}
		}
	}
}

// P6.1
func TestChecksOfTooMuch(t *testing.T) {
	for _, kind := range kinds() {
		for _, long := range []string{text(4097, 1), zeros(4097), zeros(1 << 20)} {
			if n, e := Crc(kind, long); n != 0 || e != api.ErrLong {
				t.Errorf("Crc of %d and %d octets: %x, error %d", kind, len(long), n, e)
			}
			for _, crc := range checks() {
				if n, e := More(kind, crc, long); n != 0 || e != api.ErrLong {
					t.Errorf("More of %d, %x and %d octets: %x, error %d", kind, crc, len(long), n, e)
				}
			}
		}
	}
}

// P6.4: cut anywhere, in two or in many pieces, octets have the same check.
func TestCutsDoNotMatter(t *testing.T) {
	for _, kind := range kinds() {
		whole := text(300, kind)
		want := checkOf(t, kind, whole)
		for at := range len(whole) + 1 {
			if n, e := More(kind, checkOf(t, kind, whole[:at]), whole[at:]); n != want || e != api.OK {
				t.Errorf("More of %d behind %d octets: %x, error %d", kind, at, n, e)
			}
		}
		for size := 1; size < 40; size++ {
			n, e := 0, api.OK
			for at := 0; at < len(whole) && e == api.OK; at += size {
				n, e = More(kind, n, whole[at:min(at+size, len(whole))])
			}
			if n != want || e != api.OK {
				t.Errorf("More of %d with pieces of %d octets: %x, error %d", kind, size, n, e)
			}
		}
	}
}

// P6.4: the pieces may have more octets together than one of them may have.
func TestPiecesBeyondTheLongestString(t *testing.T) {
	for _, kind := range kinds() {
		whole := text(5*4096, kind)
		n, e := 0, api.OK
		for at := 0; at < len(whole) && e == api.OK; at += 4096 {
			n, e = More(kind, n, whole[at:at+4096])
		}
		if n != libraryCheck(kind, 0, whole) || e != api.OK {
			t.Errorf("More of %d with 5 pieces of 4096 octets: %x, error %d", kind, n, e)
		}
	}
}

// P6.4
func TestEachBitChangesTheCheck(t *testing.T) {
	for _, kind := range kinds() {
		for _, whole := range []string{text(1, 1), text(40, 2), zeros(40), full(40), text(1200, 3)} {
			want := checkOf(t, kind, whole)
			for bit := range 8 * len(whole) {
				if n := checkOf(t, kind, changed(whole, bit, 1)); n == want {
					t.Errorf("Crc of %d and %d octets with the bit %d changed: still %x", kind, len(whole), bit, n)
				}
			}
		}
	}
	for _, bit := range []int{0, 7, 8, 20000, 32767} {
		if checkOf(t, 1, text(4096, 4)) == checkOf(t, 1, changed(text(4096, 4), bit, 1)) {
			t.Errorf("Crc of 4096 octets with the bit %d changed: as before", bit)
		}
	}
}

// changed returns s with those bits changed, from the one at bit on, that are 1 in pattern. The least bit of each octet comes first, as in the steps.
func changed(s string, bit int, pattern uint32) string {
	b := []byte(s)
	for ; pattern > 0; pattern /= 2 {
		if pattern%2 == 1 {
			b[bit/8] ^= 1 << (bit % 8)
		}
		bit++
	}
	return string(b)
}

// P6.4: the check changes by the exclusive or of what the changed bits make of it. So all changes of 32 bits side by side change it if none of these is made by others.
func TestBitsSideBySideChangeTheCheck(t *testing.T) {
	for _, kind := range kinds() {
		whole := text(30, kind)
		before := checkOf(t, kind, whole)
		for first := range 8*len(whole) - 31 {
			var independent []int
			for bit := range 32 {
				change := checkOf(t, kind, changed(whole, first+bit, 1)) ^ before
				for _, other := range independent {
					change = min(change, change^other)
				}
				if change != 0 {
					independent = append(independent, change)
				}
			}
			if len(independent) != 32 {
				t.Errorf("Crc of %d: the 32 bits from %d on make only %d different changes", kind, first, len(independent))
			}
		}
	}
}

// P6.4: some changes of up to 32 bits side by side, and that the check changes as the last test takes it to do.
func TestSomeChanges(t *testing.T) {
	for _, kind := range kinds() {
		whole := text(64, kind+2)
		before := checkOf(t, kind, whole)
		pattern := uint32(1)
		for range 5000 {
			pattern = pattern*1664525 + 1013904223
			change := pattern | 1
			first := int(pattern>>8) % (8*len(whole) - 31)
			sum := 0
			for rest := change; rest > 0; rest &= rest - 1 {
				sum ^= checkOf(t, kind, changed(whole, first+bits.TrailingZeros32(rest), 1)) ^ before
			}
			after := checkOf(t, kind, changed(whole, first, change))
			if after == before || after != before^sum {
				t.Fatalf("Crc of %d with the bits %x from %d on changed: %x, before it %x", kind, change, first, after, before)
			}
		}
	}
}

func FuzzCrc(f *testing.F) {
	f.Add(1, 0, "123456789", 4)
	f.Add(2, 0xffffffff, "", 0)
	f.Add(3, 0, "a", 1)
	f.Add(1, 1<<32, "a", 1)
	f.Add(2, -1, zeros(4097), 9)
	f.Fuzz(func(t *testing.T, kind, crc int, s string, cut int) {
		n, e := More(kind, crc, s)
		if kind != 1 && kind != 2 || crc < 0 || crc > 0xffffffff {
			if n != 0 || e != api.ErrArg {
				t.Errorf("More of %d, %x: %x, error %d", kind, crc, n, e)
			}
			return
		}
		if len(s) > 4096 {
			if n != 0 || e != api.ErrLong {
				t.Errorf("More of %d octets: %x, error %d", len(s), n, e)
			}
			return
		}
		if n != libraryCheck(kind, crc, s) || e != api.OK {
			t.Errorf("More of %d, %x, %q: %x, error %d", kind, crc, s, n, e)
		}
		if cut < 0 || cut > len(s) {
			return
		}
		first, e := More(kind, crc, s[:cut])
		if e != api.OK {
			t.Errorf("More of %d, %x, %q: error %d", kind, crc, s[:cut], e)
		}
		joined, e := Join(kind, first, checkOf(t, kind, s[cut:]), len(s)-cut)
		if joined != n || e != api.OK {
			t.Errorf("Join behind %q and %q: %x, error %d", s[:cut], s[cut:], joined, e)
		}
	})
}
