package stun

import (
	"encoding/binary"
	"math"
	"testing"

	"tannoy/api"
)

func addresses() []api.Addr {
	var list []api.Addr
	for n := range 40 {
		list = append(list, api.Addr{Host: text(4, n), Port: n * 1637}, api.Addr{Host: text(16, n), Port: 65535 - n})
	}
	for _, port := range []int{0, 1, 18, 33, 255, 256, 0x2112, 65535} {
		list = append(list, api.Addr{Host: zeros(4), Port: port}, api.Addr{Host: zeros(16), Port: port}, api.Addr{Host: "\xff\xff\xff\xff", Port: port})
	}
	return list
}

// wrongIds have not 12 octets.
func wrongIds() []string {
	return []string{"", "x", someId[:11], someId + "x", text(16, 1), text(20, 1), text(1<<16, 1)}
}

// mixedByChapter is the mixed value of an address, octet by octet.
func mixedByChapter(id string, a api.Addr) string {
	b := []byte{0, 1, byte(a.Port>>8) ^ 33, byte(a.Port) ^ 18}
	if len(a.Host) == 16 {
		b[1] = 2
	}
	for i := range len(a.Host) {
		b = append(b, a.Host[i]^("\x21\x12\xa4\x42" + id)[i])
	}
	return string(b)
}

// P8.3
func TestKnownMixed(t *testing.T) {
	other := unhex("b7e7a701bc34d686fa87dfae")
	for _, row := range []struct {
		id, want string
		a        api.Addr
	}{
		{someId, "0001a147e112a643", api.Addr{Host: "\xc0\x00\x02\x01", Port: 32853}},
		{other, "0001a147e112a643", api.Addr{Host: "\xc0\x00\x02\x01", Port: 32853}},
		{other, "0002a147 0113a9fa a5d3f179 bc25f4b5 bed2b9d9", api.Addr{Host: unhex("20010db8123456780011223344556677"), Port: 32853}},
		{someId, "0002 0000 00000000 00010203 04050607 08090a0b", api.Addr{Host: unhex("2112a442") + zeros(12), Port: 0x2112}},
		{someId, "0001 2112 2112a442", api.Addr{Host: zeros(4)}},
	} {
		if s, e := Mixed(row.id, row.a); s != unhex(row.want) || e != api.OK {
			t.Errorf("Mixed of %x, %v: %x, error %d, not %s", row.id, row.a, s, e, row.want)
		}
		if a, e := ReadMixed(row.id, unhex(row.want)); a != row.a || e != api.OK {
			t.Errorf("ReadMixed of %x, %s: %v, error %d", row.id, row.want, a, e)
		}
	}
}

// P8.3
func TestMixed(t *testing.T) {
	for i, a := range addresses() {
		for _, id := range []string{someId, zeros(12), text(12, i)} {
			s, e := Mixed(id, a)
			if s != mixedByChapter(id, a) || e != api.OK {
				t.Fatalf("Mixed of %x, %v: %x, error %d", id, a, s, e)
			}
			if again, e := ReadMixed(id, s); again != a || e != api.OK {
				t.Fatalf("ReadMixed of %x, %x: %v, error %d, not %v", id, s, again, e, a)
			}
		}
	}
}

// P8.3: all ports, and each octet of the value changed.
func TestMixedPorts(t *testing.T) {
	for port := range 65536 {
		a := api.Addr{Host: "\x01\x02\x03\x04", Port: port}
		s, e := Mixed(someId, a)
		if s != mixedByChapter(someId, a) || e != api.OK {
			t.Fatalf("Mixed of %v: %x, error %d", a, s, e)
		}
		if again, e := ReadMixed(someId, s); again != a || e != api.OK {
			t.Fatalf("ReadMixed of %x: %v, error %d", s, again, e)
		}
	}
}

// P8.3
func TestMixedOfWrongArguments(t *testing.T) {
	right := api.Addr{Host: "\x01\x02\x03\x04", Port: 5}
	value := mixedByChapter(someId, right)
	for _, id := range wrongIds() {
		if s, e := Mixed(id, right); s != "" || e != api.ErrArg {
			t.Errorf("Mixed for an Id of %d octets: %x, error %d", len(id), s, e)
		}
		for _, value := range []string{value, "", "x", text(30, 1)} {
			if a, e := ReadMixed(id, value); a != (api.Addr{}) || e != api.ErrArg {
				t.Errorf("ReadMixed for an Id of %d octets: %v, error %d", len(id), a, e)
			}
		}
	}
	for _, port := range []int{math.MinInt, -1 << 32, -65536, -1, 65536, 1<<16 + 80, 1 << 32, math.MaxInt} {
		if s, e := Mixed(someId, api.Addr{Host: right.Host, Port: port}); s != "" || e != api.ErrArg {
			t.Errorf("Mixed with the port %d: %x, error %d", port, s, e)
		}
	}
	for _, n := range []int{0, 1, 3, 5, 8, 15, 17, 20, 1196, 1200, 1 << 16} {
		if s, e := Mixed(someId, api.Addr{Host: text(n, n), Port: 5}); s != "" || e != api.ErrArg {
			t.Errorf("Mixed with a host of %d octets: %x, error %d", n, s, e)
		}
	}
}

// P8.3: all first two octets before values of some lengths.
func TestReadMixed(t *testing.T) {
	for first := range 65536 {
		for _, n := range []int{0, 1, 2, 5, 6, 7, 10, 17, 18, 19} {
			value := string(binary.BigEndian.AppendUint16(nil, uint16(first))) + text(n, first)
			right := first == 1 && n == 6 || first == 2 && n == 18
			a, e := ReadMixed(someId, value)
			if right && (e != api.OK || mixedByChapter(someId, a) != value) || !right && (e != api.ErrForm || a != (api.Addr{})) {
				t.Fatalf("ReadMixed of %x: %v, error %d", value, a, e)
			}
		}
	}
}

// P8.3: values of all lengths.
func TestReadMixedLengths(t *testing.T) {
	for n := range 1500 {
		for _, family := range []string{"\x00\x01", "\x00\x02", "\x00\x00", "\x00\x03"} {
			value := (family + text(n, n))[:n]
			right := n == 8 && family == "\x00\x01" || n == 20 && family == "\x00\x02"
			if a, e := ReadMixed(someId, value); (e == api.OK) != right || e != api.OK && (e != api.ErrForm || a != (api.Addr{})) {
				t.Errorf("ReadMixed of %x: %v, error %d", value, a, e)
			}
		}
	}
	for _, value := range []string{text(1<<20, 1), "\x00\x01" + zeros(1<<17), "\x00\x02" + zeros(1<<17)} {
		if a, e := ReadMixed(someId, value); a != (api.Addr{}) || e != api.ErrForm {
			t.Errorf("ReadMixed of %d octets: %v, error %d", len(value), a, e)
		}
	}
}

// P8.3: all numbers, with reasons of some lengths.
func TestReason(t *testing.T) {
	for number := -1000; number < 70000; number++ {
		for _, reason := range []string{"", "x", "\x00", "ä\xff\n", text(127, number), text(128, number)} {
			want, wantError := "", api.ErrArg
			if number >= 300 && number <= 699 {
				want, wantError = string([]byte{0, 0, byte(number / 100), byte(number % 100)})+reason, api.OK
			}
			s, e := Reason(number, reason)
			if s != want || e != wantError {
				t.Fatalf("Reason of %d, %q: %x, error %d", number, reason, s, e)
			}
			if e != api.OK {
				continue
			}
			if n, r, e := ReadReason(s); n != number || r != reason || e != api.OK {
				t.Fatalf("ReadReason of %x: %d, %q, error %d", s, n, r, e)
			}
		}
	}
	if s, e := Reason(487, "x"); s != unhex("0000045778") || e != api.OK {
		t.Errorf("Reason of 487, x: %x, error %d", s, e)
	}
}

// P8.3
func TestReasonOfWrongArguments(t *testing.T) {
	for _, number := range []int{math.MinInt, -1 << 32, -300, -1, 0, 299, 700, 1<<32 + 400, 1<<62 + 300, math.MaxInt} {
		for _, reason := range []string{"x", text(129, 1)} {
			if s, e := Reason(number, reason); s != "" || e != api.ErrArg {
				t.Errorf("Reason of %d: %x, error %d", number, s, e)
			}
		}
	}
	for _, n := range []int{129, 130, 256, 763, 5000, 1 << 20} {
		for _, number := range []int{300, 487, 699} {
			if s, e := Reason(number, text(n, n)); s != "" || e != api.ErrLong {
				t.Errorf("Reason of %d octets: %x, error %d", n, s, e)
			}
		}
	}
}

// P8.3: all third and fourth octets, behind two that are 0 or are not, before reasons of some lengths.
func TestReadReason(t *testing.T) {
	for third := range 256 {
		for fourth := range 256 {
			for _, first := range []string{"\x00\x00", "\x00\x01", "\x01\x00", "\xff\xff"} {
				for _, n := range []int{0, 1, 128, 129} {
					value := first + string([]byte{byte(third), byte(fourth)}) + text(n, n)
					right := first == "\x00\x00" && third >= 3 && third <= 6 && fourth < 100 && n <= 128
					number, reason, e := ReadReason(value)
					if right && (number != 100*third+fourth || reason != text(n, n) || e != api.OK) || !right && (number != 0 || reason != "" || e != api.ErrForm) {
						t.Fatalf("ReadReason of %x: %d, %q, error %d", value, number, reason, e)
					}
				}
			}
		}
	}
	for _, value := range []string{"", "\x00", "\x00\x00", "\x00\x00\x04", "\x04\x57", "487", zeros(4), text(4, 1), "\x00\x00\x04\x57" + text(1<<20, 1)} {
		if number, reason, e := ReadReason(value); number != 0 || reason != "" || e != api.ErrForm {
			t.Errorf("ReadReason of %d octets: %d, %q, error %d", len(value), number, reason, e)
		}
	}
}

// P8.3
func FuzzValues(f *testing.F) {
	f.Add(someId, unhex("0001a147e112a643"))
	f.Add(someId, unhex("0002a1470113a9faa5d3f179bc25f4b5bed2b9d9"))
	f.Add(zeros(12), unhex("0000045778"))
	f.Add("", "")
	f.Fuzz(func(t *testing.T, id, value string) {
		if a, e := ReadMixed(id, value); e == api.OK {
			if mixedByChapter(id, a) != value || len(id) != 12 {
				t.Errorf("ReadMixed of %x, %x: %v", id, value, a)
			}
		} else if a != (api.Addr{}) || (e == api.ErrArg) != (len(id) != 12) {
			t.Errorf("ReadMixed of %x, %x: %v, error %d", id, value, a, e)
		}
		number, reason, e := ReadReason(value)
		if e == api.OK {
			if again, e := Reason(number, reason); again != value || e != api.OK {
				t.Errorf("Reason of what %x is: %x, error %d", value, again, e)
			}
		} else if number != 0 || reason != "" || e != api.ErrForm {
			t.Errorf("ReadReason of %x: %d, %q, error %d", value, number, reason, e)
		}
	})
}
