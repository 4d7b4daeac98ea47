package octets

import (
	"math"
	"math/big"
	"strings"
	"testing"

	"tannoy/api"
)

var wrongReaders = []api.Reader{
	{S: "", At: -1}, {S: "", At: 1}, {S: "abc", At: -1}, {S: "abc", At: 4},
	{S: "abc", At: math.MinInt}, {S: "abc", At: math.MaxInt},
}

var units = map[int]bool{1: true, 2: true, 4: true, 8: true}

// someInts has what may be mistaken for a unit, a number of octets or bits.
func someInts() []int {
	l := []int{math.MinInt, math.MinInt + 1, math.MinInt32, math.MaxInt32, math.MaxInt - 1, math.MaxInt}
	for n := -70; n <= 70; n++ {
		l = append(l, n)
	}
	return l
}

// P1.1
func TestReaderNotValid(t *testing.T) {
	for _, r := range wrongReaders {
		if e := Check(r); e != api.ErrArg {
			t.Errorf("Check(%v): error %d", r, e)
		}
		if n, e := Left(r); n != 0 || e != api.ErrArg {
			t.Errorf("Left(%v): %d, error %d", r, n, e)
		}
		for _, n := range someInts() {
			if s, next, e := Take(r, n); s != "" || next != (api.Reader{}) || e != api.ErrArg {
				t.Errorf("Take(%v, %d): %q, %v, error %d", r, n, s, next, e)
			}
			if v, next, e := Uint(r, n); v != 0 || next != (api.Reader{}) || e != api.ErrArg {
				t.Errorf("Uint(%v, %d): %d, %v, error %d", r, n, v, next, e)
			}
			if next, e := Skip(r, n); next != (api.Reader{}) || e != api.ErrArg {
				t.Errorf("Skip(%v, %d): %v, error %d", r, n, next, e)
			}
		}
	}
}

// P1.1
func TestCheckAndLeft(t *testing.T) {
	for _, s := range []string{"", "a", "\x00\xff", "abcde"} {
		for at := 0; at <= len(s); at++ {
			r := api.Reader{S: s, At: at}
			if e := Check(r); e != api.OK {
				t.Errorf("Check(%v): error %d", r, e)
			}
			if n, e := Left(r); n != len(s)-at || e != api.OK {
				t.Errorf("Left(%v): %d, error %d", r, n, e)
			}
		}
	}
}

// P1.1
func TestTake(t *testing.T) {
	s := "a\x00\xffd"
	for at := 0; at <= len(s); at++ {
		for _, n := range someInts() {
			r := api.Reader{S: s, At: at}
			want, behind, wrong := "", api.Reader{}, api.OK
			if n < 0 {
				wrong = api.ErrArg
			} else if n > len(s)-at {
				wrong = api.ErrShort
			} else {
				want, behind = s[at:][:n], api.Reader{S: s, At: at + n}
			}
			if got, next, e := Take(r, n); got != want || next != behind || e != wrong {
				t.Errorf("Take(%v, %d): %q, %v, error %d", r, n, got, next, e)
			}
		}
	}
}

// P1.1
func TestUint(t *testing.T) {
	s := "\xff\xfe\x00\x01\x80\x7f\x03\xff\xff\xff"
	for at := 0; at <= len(s); at++ {
		for _, n := range someInts() {
			r := api.Reader{S: s, At: at}
			want, behind, wrong := 0, api.Reader{}, api.OK
			if n < 1 || n > 7 {
				wrong = api.ErrArg
			} else if n > len(s)-at {
				wrong = api.ErrShort
			} else {
				want = int(new(big.Int).SetBytes([]byte(s[at : at+n])).Int64())
				behind = api.Reader{S: s, At: at + n}
			}
			if got, next, e := Uint(r, n); got != want || next != behind || e != wrong {
				t.Errorf("Uint(%v, %d): %d, %v, error %d", r, n, got, next, e)
			}
		}
	}
	for _, x := range []struct{ at, n, want int }{{0, 1, 255}, {0, 2, 65534}, {1, 2, 65024}, {2, 2, 1}, {0, 7, 0xfffe0001807f03}} {
		if v, _, e := Uint(api.Reader{S: s, At: x.at}, x.n); v != x.want || e != api.OK {
			t.Errorf("Uint at %d, %d: %d, error %d", x.at, x.n, v, e)
		}
	}
}

// P1.1
func TestSkip(t *testing.T) {
	for size := 0; size <= 17; size++ {
		s := strings.Repeat("x", size)
		for at := 0; at <= size; at++ {
			for _, unit := range someInts() {
				r := api.Reader{S: s, At: at}
				want, wrong := api.Reader{}, api.OK
				if !units[unit] {
					wrong = api.ErrArg
				} else {
					place := at
					for place%unit != 0 {
						place++
					}
					if place > size {
						wrong = api.ErrShort
					} else {
						want = api.Reader{S: s, At: place}
					}
				}
				if next, e := Skip(r, unit); next != want || e != wrong {
					t.Errorf("Skip(%v, %d): %v, error %d", r, unit, next, e)
				}
			}
		}
	}
}

// P1.1
func TestReadingInARow(t *testing.T) {
	r := api.Reader{S: "\x02abc\x00\x00\x00\x00\x01\x00\x00"}
	n, r, e := Uint(r, 1)
	if n != 2 || r.At != 1 || e != api.OK {
		t.Fatalf("Uint: %d, %v, error %d", n, r, e)
	}
	s, r, e := Take(r, n)
	if s != "ab" || r.At != 3 || e != api.OK {
		t.Fatalf("Take: %q, %v, error %d", s, r, e)
	}
	r, e = Skip(r, 4)
	if r.At != 4 || e != api.OK {
		t.Fatalf("Skip: %v, error %d", r, e)
	}
	n, r, e = Uint(r, 7)
	if n != 65536 || r.At != 11 || e != api.OK {
		t.Fatalf("Uint: %d, %v, error %d", n, r, e)
	}
	if n, e := Left(r); n != 0 || e != api.OK {
		t.Fatalf("Left: %d, error %d", n, e)
	}
}

// P1.2
func TestPut(t *testing.T) {
	values := []int{0, 1, 127, 128, 255, math.MaxInt - 1, math.MaxInt, -1, -256, math.MinInt}
	for n := 1; n <= 7; n++ {
		all := 1 << (8 * n)
		values = append(values, all-1, all, all+1, -all, all/2, all/3)
	}
	for _, n := range someInts() {
		for _, value := range values {
			want, wrong := "", api.OK
			if n < 1 || n > 7 || value < 0 {
				wrong = api.ErrArg
			} else if b := big.NewInt(int64(value)); b.BitLen() > 8*n {
				wrong = api.ErrBig
			} else {
				want = string(b.FillBytes(make([]byte, n)))
			}
			if s, e := Put(n, value); s != want || e != wrong {
				t.Errorf("Put(%d, %d): %q, error %d", n, value, s, e)
			}
		}
	}
	for _, x := range []struct {
		n, value int
		want     string
	}{{1, 0, "\x00"}, {1, 255, "\xff"}, {2, 258, "\x01\x02"}, {3, 1, "\x00\x00\x01"}, {7, 1 << 48, "\x01\x00\x00\x00\x00\x00\x00"}} {
		if s, e := Put(x.n, x.value); s != x.want || e != api.OK {
			t.Errorf("Put(%d, %d): %q, error %d", x.n, x.value, s, e)
		}
	}
}

// P1.2
func TestPad(t *testing.T) {
	for size := 0; size <= 17; size++ {
		s := strings.Repeat("\xfe", size)
		for _, unit := range someInts() {
			want, wrong := "", api.OK
			if !units[unit] {
				wrong = api.ErrArg
			} else {
				want = s
				for len(want)%unit != 0 {
					want += "\x00"
				}
			}
			if got, e := Pad(s, unit); got != want || e != wrong {
				t.Errorf("Pad(%q, %d): %q, error %d", s, unit, got, e)
			}
		}
	}
	for _, x := range []struct {
		s    string
		unit int
		want string
	}{{"", 8, ""}, {"abc", 1, "abc"}, {"abc", 4, "abc\x00"}, {"abcd", 4, "abcd"}, {"abcde", 8, "abcde\x00\x00\x00"}} {
		if s, e := Pad(x.s, x.unit); s != x.want || e != api.OK {
			t.Errorf("Pad(%q, %d): %q, error %d", x.s, x.unit, s, e)
		}
	}
}

// P1.5
func TestPutIsReadByUint(t *testing.T) {
	for n := 1; n <= 7; n++ {
		all := 1 << (8 * n)
		for _, value := range []int{0, 1, 2, 127, 128, 255, all / 7, all / 3, all/2 - 1, all / 2, all - 2, all - 1} {
			s, e := Put(n, value)
			if len(s) != n || e != api.OK {
				t.Errorf("Put(%d, %d): %q, error %d", n, value, s, e)
			}
			v, r, e := Uint(api.Reader{S: "head" + s + "tail", At: 4}, n)
			if v != value || r.At != 4+n || e != api.OK {
				t.Errorf("Uint of Put(%d, %d): %d, at %d, error %d", n, value, v, r.At, e)
			}
		}
	}
}
