package octets

import (
	"math"
	"testing"

	"tannoy/api"
)

// serials returns all numbers of few bits, and those near the edges of many bits.
func serials(bits int) []int {
	all := 1 << bits
	var l []int
	if bits <= 6 {
		for x := range all {
			l = append(l, x)
		}
		return l
	}
	for _, x := range []int{0, all / 4, all / 3, all / 2, all / 4 * 3} {
		for d := -2; d <= 2; d++ {
			l = append(l, (x+d+all)%all)
		}
	}
	return l
}

// leadOf finds the lead by its definition.
func leadOf(x, y, bits int) int {
	all := 1 << bits
	lead := x - y
	for lead < -all/2 {
		lead += all
	}
	for lead > all/2-1 {
		lead -= all
	}
	return lead
}

// P1.4
func TestAheadAndNewer(t *testing.T) {
	for bits := 1; bits <= 32; bits++ {
		for _, x := range serials(bits) {
			for _, y := range serials(bits) {
				want := leadOf(x, y, bits)
				if lead, e := Ahead(x, y, bits); lead != want || e != api.OK {
					t.Errorf("Ahead(%d, %d, %d): %d, error %d", x, y, bits, lead, e)
				}
				if newer, e := Newer(x, y, bits); newer != (want > 0) || e != api.OK {
					t.Errorf("Newer(%d, %d, %d): %t, error %d", x, y, bits, newer, e)
				}
			}
		}
	}
}

// P1.4
func TestLeadsAtTheEdges(t *testing.T) {
	for _, x := range []struct{ x, y, bits, want int }{
		{0, 0, 1, 0}, {1, 0, 1, -1}, {0, 1, 1, -1}, {1, 1, 1, 0},
		{1, 65535, 16, 2}, {65535, 1, 16, -2}, {0, 32768, 16, -32768}, {32768, 0, 16, -32768},
		{32767, 0, 16, 32767}, {0, 32767, 16, -32767}, {0, 32769, 16, 32767},
		{0, math.MaxUint32, 32, 1}, {math.MaxUint32, 0, 32, -1}, {1 << 31, 0, 32, -1 << 31}, {1<<31 - 1, 0, 32, 1<<31 - 1},
	} {
		if lead, e := Ahead(x.x, x.y, x.bits); lead != x.want || e != api.OK {
			t.Errorf("Ahead(%d, %d, %d): %d, error %d", x.x, x.y, x.bits, lead, e)
		}
		if newer, e := Newer(x.x, x.y, x.bits); newer != (x.want > 0) || e != api.OK {
			t.Errorf("Newer(%d, %d, %d): %t, error %d", x.x, x.y, x.bits, newer, e)
		}
	}
}

// P1.4
func TestSerialNumbersNotValid(t *testing.T) {
	wrong := func(x, y, bits int) {
		if lead, e := Ahead(x, y, bits); lead != 0 || e != api.ErrArg {
			t.Errorf("Ahead(%d, %d, %d): %d, error %d", x, y, bits, lead, e)
		}
		if newer, e := Newer(x, y, bits); newer || e != api.ErrArg {
			t.Errorf("Newer(%d, %d, %d): %t, error %d", x, y, bits, newer, e)
		}
	}
	for _, bits := range someInts() {
		if bits < 1 || bits > 32 {
			wrong(0, 0, bits)
			wrong(1, 0, bits)
			wrong(-1, math.MaxInt, bits)
			continue
		}
		all := 1 << bits
		for _, x := range []int{-1, -all, all, all + 1, math.MinInt, math.MaxInt} {
			wrong(x, 0, bits)
			wrong(all-1, x, bits)
			wrong(x, x, bits)
		}
	}
}

// P1.5
func TestNewerIsNeverMutual(t *testing.T) {
	for bits := 1; bits <= 32; bits++ {
		half := 1 << bits / 2
		for _, x := range serials(bits) {
			for _, y := range serials(bits) {
				one, _ := Newer(x, y, bits)
				other, _ := Newer(y, x, bits)
				if one && other {
					t.Errorf("%d and %d of %d bits are newer than each other", x, y, bits)
				}
				// Only equal numbers, and those half of all apart, are newer neither way.
				neither := x == y || x-y == half || y-x == half
				if neither == (one || other) {
					t.Errorf("%d and %d of %d bits: newer %t, the other way %t", x, y, bits, one, other)
				}
			}
		}
	}
}

// P1.5
func TestLeadIsKeptBySums(t *testing.T) {
	for _, bits := range []int{1, 2, 3, 4, 5, 8, 16, 17, 31, 32} {
		all := 1 << bits
		for _, x := range serials(bits) {
			for _, y := range serials(bits) {
				lead, _ := Ahead(x, y, bits)
				for _, more := range []int{1, all / 3, all / 2, all - 1} {
					moved, e := Ahead((x+more)%all, (y+more)%all, bits)
					if moved != lead || e != api.OK {
						t.Errorf("Ahead(%d, %d, %d) with %d more: %d, error %d", x, y, bits, more, moved, e)
					}
				}
			}
		}
	}
}
