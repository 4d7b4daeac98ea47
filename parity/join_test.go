package parity

import (
	"hash/crc32"
	"math"
	"testing"

	"tannoy/api"
)

// afterLibraryZeros is what a becomes by the steps of n octets 0, which the library makes one after the other.
func afterLibraryZeros(kind, a, n int) int {
	table, piece := libraryTable(kind), make([]byte, min(n, 1<<16))
	// The library turns all bits around before the steps and after them; the steps themselves do not.
	state := ^uint32(a)
	for ; n > len(piece); n -= len(piece) {
		state = crc32.Update(state, table, piece)
	}
	return int(^crc32.Update(state, table, piece[:n]))
}

// join is Join of arguments that must have a result.
func join(t *testing.T, kind, a, b, n int) int {
	t.Helper()
	out, e := Join(kind, a, b, n)
	if e != api.OK {
		t.Fatalf("Join of %d, %x, %x, %d: error %d", kind, a, b, n, e)
	}
	return out
}

// refuseJoin reports an error if Join of the arguments is not ErrArg.
func refuseJoin(t *testing.T, kind, a, b, n int) {
	t.Helper()
	if out, e := Join(kind, a, b, n); out != 0 || e != api.ErrArg {
		t.Errorf("Join of %d, %x, %x, %d: %x, error %d", kind, a, b, n, out, e)
	}
}

// P6.2
func TestJoinOfKnownChecks(t *testing.T) {
	for _, x := range []struct{ kind, a, b, n, want int }{
		{1, 0x9be3e0a3, 0x131da070, 5, 0xcbf43926}, // 1234 and 56789
		{1, 0, 0, 0, 0},
		{1, 0, 0, 1, 0},
		{1, 1, 0, 1, 0x77073096},
		{2, 1, 0, 1, 0xf26b8303},
		{1, 0xff, 0, 1, 0x2d02ef8d},
		{2, 0xff, 0, 1, 0xad7d5351},
		{1, 0x100, 0, 1, 1},
		{1, 0xffffffff, 0, 0, 0xffffffff},
		{2, 0xffffffff, 0, 0, 0xffffffff},
	} {
		if n, e := Join(x.kind, x.a, x.b, x.n); n != x.want || e != api.OK {
			t.Errorf("Join of %d, %x, %x, %d: %x, error %d", x.kind, x.a, x.b, x.n, n, e)
		}
	}
	first, second := checkOf(t, 1, "1234"), checkOf(t, 1, "56789")
	if n := join(t, 1, first, second, 5); n != 0xcbf43926 {
		t.Errorf("Join of %x, %x, 5: %x", first, second, n)
	}
}

// P6.2: b need not be the check of n octets: it is only taken into the exclusive or.
func TestJoin(t *testing.T) {
	counts := []int{1, 2, 3, 4, 5, 7, 8, 9, 15, 16, 17, 31, 32, 33, 255, 256, 1200, 4096, 4097, 65535, 65536, 1<<20 - 1, 1 << 20, 1<<20 + 1}
	for _, kind := range kinds() {
		for _, n := range counts {
			for i, a := range checks() {
				b := checks()[(i+n)%len(checks())]
				want := afterLibraryZeros(kind, a, n)
				if out := join(t, kind, a, b, n); out != want^b {
					t.Errorf("Join of %d, %x, %x, %d: %x, want %x", kind, a, b, n, out, want^b)
				}
				if out := join(t, kind, a, 0, n); out != want {
					t.Errorf("Join of %d, %x, 0, %d: %x, want %x", kind, a, n, out, want)
				}
			}
		}
	}
}

// P6.2: up to the greatest number of octets.
func TestJoinOfManyOctets(t *testing.T) {
	for _, kind := range kinds() {
		for _, n := range []int{1<<28 + 12345, 1<<30 - 1, 1 << 30} {
			a, b := checkOf(t, kind, text(50, n)), checkOf(t, kind, text(51, n))
			if out, want := join(t, kind, a, b, n), afterLibraryZeros(kind, a, n)^b; out != want {
				t.Errorf("Join of %d, %x, %x, %d: %x, want %x", kind, a, b, n, out, want)
			}
		}
	}
	if api.MaxJoin != 1<<30 {
		t.Errorf("MaxJoin is %d", api.MaxJoin)
	}
}

// P6.2
func TestJoinOfNoOctets(t *testing.T) {
	for _, kind := range kinds() {
		for _, a := range checks() {
			if out := join(t, kind, a, 0, 0); out != a {
				t.Errorf("Join of %d, %x, 0, 0: %x", kind, a, out)
			}
			for _, b := range checks()[1:] {
				refuseJoin(t, kind, a, b, 0)
			}
		}
	}
}

// P6.2
func TestJoinOfWrongArguments(t *testing.T) {
	wrongCounts := []int{math.MinInt, -1 << 32, -1 << 30, -1, 1<<30 + 1, 1 << 31, 1 << 32, 1 << 62, math.MaxInt}
	for _, n := range append(wrongCounts, 0, 1, 5, 1<<30) {
		for _, kind := range wrongKinds() {
			refuseJoin(t, kind, 0, 0, n)
			refuseJoin(t, kind, -1, 1, n)
		}
		for _, kind := range kinds() {
			for _, wrong := range wrongChecks() {
				refuseJoin(t, kind, wrong, 0, n)
				refuseJoin(t, kind, 0, wrong, n)
				refuseJoin(t, kind, wrong, wrong, n)
			}
		}
	}
	for _, kind := range kinds() {
		for _, n := range wrongCounts {
			refuseJoin(t, kind, 0, 0, n)
			refuseJoin(t, kind, 1, 0xffffffff, n)
		}
	}
}

// P6.2, P6.4: joined anywhere, octets have the same check.
func TestJoinsDoNotMatter(t *testing.T) {
	for _, kind := range kinds() {
		whole := text(200, kind)
		want := checkOf(t, kind, whole)
		for at := range len(whole) + 1 {
			a, b := checkOf(t, kind, whole[:at]), checkOf(t, kind, whole[at:])
			if out := join(t, kind, a, b, len(whole)-at); out != want {
				t.Errorf("Join of %d behind %d octets: %x, want %x", kind, at, out, want)
			}
		}
	}
}

// P6.4: of three parts, it does not matter which two are joined first.
func TestTheOrderOfJoins(t *testing.T) {
	for _, kind := range kinds() {
		for seed := range 50 {
			x, y, z := text(4096-seed, seed), text(seed*seed, seed+50), text(3*seed, seed+100)
			a, b, c := checkOf(t, kind, x), checkOf(t, kind, y), checkOf(t, kind, z)
			left := join(t, kind, join(t, kind, a, b, len(y)), c, len(z))
			right := join(t, kind, a, join(t, kind, b, c, len(z)), len(y)+len(z))
			if want := libraryCheck(kind, 0, x+y+z); left != want || right != want {
				t.Errorf("Join of %d with parts of %d, %d and %d octets: %x and %x, want %x", kind, len(x), len(y), len(z), left, right, want)
			}
		}
	}
}

func FuzzJoin(f *testing.F) {
	f.Add(1, 0x9be3e0a3, 0x131da070, 5)
	f.Add(2, 0xffffffff, 0, 0)
	f.Add(1, 0, 1, 0)
	f.Add(2, 0, 0, 1<<30)
	f.Add(1, 0, 0, 1<<30+1)
	f.Fuzz(func(t *testing.T, kind, a, b, n int) {
		isKind := kind == 1 || kind == 2
		areChecks := a >= 0 && a <= 0xffffffff && b >= 0 && b <= 0xffffffff
		if !isKind || !areChecks || n < 0 || n > 1<<30 || n == 0 && b != 0 {
			refuseJoin(t, kind, a, b, n)
			return
		}
		out := join(t, kind, a, b, n)
		half := n / 2
		// The steps are made in two parts, and b is taken in at the end; a part of no octets has no check.
		if again := join(t, kind, join(t, kind, a, 0, half), 0, n-half) ^ b; out != again {
			t.Errorf("Join of %d, %x, %x, %d: %x, and in two parts %x", kind, a, b, n, out, again)
		}
		if n <= 1<<16 && out != afterLibraryZeros(kind, a, n)^b {
			t.Errorf("Join of %d, %x, %x, %d: %x", kind, a, b, n, out)
		}
	})
}
