package stun

import (
	"encoding/binary"
	"encoding/hex"
	"fmt"
	"math"
	"reflect"
	"slices"
	"strconv"
	"strings"
	"testing"

	"tannoy/api"
)

const someId = "\x00\x01\x02\x03\x04\x05\x06\x07\x08\x09\x0a\x0b"

func unhex(s string) string {
	b, err := hex.DecodeString(strings.ReplaceAll(s, " ", ""))
	if err != nil {
		panic(err)
	}
	return string(b)
}

// text returns n octets of many values, which are not those of another seed.
func text(n, seed int) string {
	b := make([]byte, n)
	x := uint32(2*seed + 1)
	for i := range b {
		x = x*1664525 + 1013904223
		b[i] = byte(x >> 24)
	}
	return string(b)
}

func zeros(n int) string {
	return strings.Repeat("\x00", n)
}

// ask is the request of the chapter's examples, with attributes.
func ask(attrs ...api.StunAttr) api.Stun {
	return api.Stun{Class: api.StunAsk, Method: 1, Id: someId, Attrs: attrs}
}

// some returns n attributes with values of the same number of octets.
func some(n, size int) []api.StunAttr {
	var list []api.StunAttr
	for i := range n {
		list = append(list, api.StunAttr{Kind: api.StunData, Value: text(size, i)})
	}
	return list
}

// ofSize returns a message of so many octets, from 20 to 1200, a multiple of 4, in few attributes.
func ofSize(size int) api.Stun {
	m := ask()
	for left := size - 20; left > 0; {
		n := min(left, 764)
		// A value of 760 octets needs no padding, so that no octets are left that are too few for an attribute.
		m.Attrs = append(m.Attrs, api.StunAttr{Kind: api.StunData, Value: text(n-4, left)})
		left -= n
	}
	return m
}

// same tells whether two messages are equal, whether they have no list of attributes or an empty one.
func same(a, b api.Stun) bool {
	return a.Class == b.Class && a.Method == b.Method && a.Id == b.Id && slices.Equal(a.Attrs, b.Attrs)
}

// byChapter are the octets of m with the length greater by more, written as the chapter says.
func byChapter(m api.Stun, more int) string {
	var body []byte
	for _, a := range m.Attrs {
		body = binary.BigEndian.AppendUint16(body, uint16(a.Kind))
		body = binary.BigEndian.AppendUint16(body, uint16(len(a.Value)))
		body = append(body, a.Value...)
		for len(body)%4 != 0 {
			body = append(body, 0)
		}
	}
	method, class := fmt.Sprintf("%012b", m.Method), fmt.Sprintf("%02b", m.Class)
	bits := method[:5] + class[:1] + method[5:8] + class[1:] + method[8:]
	number, _ := strconv.ParseUint(bits, 2, 14)
	head := binary.BigEndian.AppendUint16(nil, uint16(number))
	head = binary.BigEndian.AppendUint16(head, uint16(len(body)+more))
	head = binary.BigEndian.AppendUint32(head, 0x2112a442)
	return string(head) + m.Id + string(body)
}

// readByChapter is Decode, with all that makes octets malformed asked for one after the other.
func readByChapter(s string) (api.Stun, api.Errno) {
	if len(s) > 1200 {
		return api.Stun{}, api.ErrLong
	}
	if len(s) < 20 || len(s) < 20+int(s[2])*256+int(s[3]) {
		return api.Stun{}, api.ErrShort
	}
	if len(s) != 20+int(s[2])*256+int(s[3]) || s[0] > 63 || s[4:8] != "\x21\x12\xa4\x42" {
		return api.Stun{}, api.ErrForm
	}
	bits := fmt.Sprintf("%014b", int(s[0])*256+int(s[1]))
	method, _ := strconv.ParseInt(bits[:5]+bits[6:9]+bits[10:], 2, 0)
	class, _ := strconv.ParseInt(bits[5:6]+bits[9:10], 2, 0)
	m := api.Stun{Class: int(class), Method: int(method), Id: s[8:20]}
	for rest := s[20:]; rest != ""; {
		if len(rest) < 4 {
			return api.Stun{}, api.ErrForm
		}
		kind, size := int(rest[0])*256+int(rest[1]), int(rest[2])*256+int(rest[3])
		end := 4 + size
		for end%4 != 0 {
			end++
		}
		if size > 763 || end > len(rest) || strings.Trim(rest[4+size:end], "\x00") != "" || len(m.Attrs) == 30 {
			return api.Stun{}, api.ErrForm
		}
		m.Attrs = append(m.Attrs, api.StunAttr{Kind: kind, Value: rest[4 : 4+size]})
		rest = rest[end:]
	}
	return m, api.OK
}

// compareDecode tells where Decode is not as the chapter says.
func compareDecode(t *testing.T, s string) {
	t.Helper()
	want, wantError := readByChapter(s)
	m, e := Decode(s)
	if !same(m, want) || e != wantError {
		t.Fatalf("Decode of %x: %x, error %d, not %x, error %d", s, m, e, want, wantError)
	}
	if e == api.OK {
		if again, e := Encode(m); again != s || e != api.OK {
			t.Fatalf("Encode of what %x is: %x, error %d", s, again, e)
		}
	} else if !reflect.ValueOf(m).IsZero() {
		t.Fatalf("Decode of %x: error %d with %x", s, e, m)
	}
}

// messages are valid messages of many kinds, and at the limits.
func messages() []api.Stun {
	list := []api.Stun{
		ask(),
		ask([]api.StunAttr{}...),
		{Class: 3, Method: 4095, Id: strings.Repeat("\xff", 12)},
		{Class: 0, Method: 0, Id: zeros(12)},
		ask(some(30, 0)...), ask(some(30, 32)...), ask(some(29, 36)...), ask(some(1, 763)...),
		ask(api.StunAttr{}), ask(api.StunAttr{Kind: 65535}), ask(api.StunAttr{Kind: 65535, Value: zeros(763)}),
		ask(api.StunAttr{Value: text(763, 1)}, api.StunAttr{Value: text(408, 2)}),
		ask(api.StunAttr{Value: text(763, 1)}, api.StunAttr{Value: text(405, 2)}),
		ofSize(1200), ofSize(1196), ofSize(1192), ofSize(1164), ofSize(24),
	}
	for n := range 40 {
		m := api.Stun{Class: n % 4, Method: n * 97 % 4096, Id: text(12, n)}
		for i := range n % 7 {
			m.Attrs = append(m.Attrs, api.StunAttr{Kind: (n*1009 + i*4099) % 65536, Value: text((n+i*i)%50, n+i)})
		}
		list = append(list, m)
	}
	return list
}

// wrongMessages are messages each of which is not valid for a single reason.
func wrongMessages() []api.Stun {
	list := []api.Stun{{}}
	for _, n := range []int{math.MinInt, -1 << 32, -1, 4, 5, 256, 1 << 32, math.MaxInt} {
		m := ask()
		m.Class = n
		list = append(list, m)
	}
	for _, n := range []int{math.MinInt, -1 << 32, -4096, -1, 4096, 4097, 1 << 32, math.MaxInt} {
		m := ask()
		m.Method = n
		list = append(list, m)
	}
	for _, n := range []int{0, 1, 11, 13, 24, 5000} {
		m := ask()
		m.Id = text(n, n)
		list = append(list, m)
	}
	for _, n := range []int{math.MinInt, -1 << 32, -1, 65536, 65537, 1 << 32, math.MaxInt} {
		list = append(list, ask(api.StunAttr{Kind: n}), ask(append(some(5, 3), api.StunAttr{Kind: n, Value: "x"})...))
	}
	list = append(list, ask(some(31, 0)...), ask(some(100, 0)...), ask(some(1, 764)...), ask(some(1, 5000)...), ask(some(1, 1<<20)...))
	// 1204 octets and more, made in several ways of values that are none too long.
	list = append(list, ask(some(2, 763)...), ask(some(30, 33)...), ask(some(29, 37)...), ask(some(30, 763)...))
	list = append(list, ask(append(some(1, 763), some(1, 409)...)...))
	larger := ofSize(1200)
	larger.Attrs = append(larger.Attrs, api.StunAttr{})
	return append(list, larger)
}

// P8.1
func TestKnownOctets(t *testing.T) {
	for want, m := range map[string]api.Stun{
		"000100002112a442000102030405060708090a0b":                 ask(),
		"010100082112a442000102030405060708090a0b0006000261620000": {Class: api.StunDone, Method: 1, Id: someId, Attrs: []api.StunAttr{{Kind: 6, Value: "ab"}}},
		"3fff00042112a442000102030405060708090a0bffff0000":         {Class: api.StunError, Method: 4095, Id: someId, Attrs: []api.StunAttr{{Kind: 65535}}},
		"001600002112a442000102030405060708090a0b":                 {Class: api.StunTell, Method: 6, Id: someId},
		"011300002112a442000102030405060708090a0b":                 {Class: api.StunError, Method: 3, Id: someId},
	} {
		if s, e := Encode(m); s != unhex(want) || e != api.OK {
			t.Errorf("Encode of %x: %x, error %d, not %s", m, s, e, want)
		}
		if got, e := Decode(unhex(want)); !same(got, m) || e != api.OK {
			t.Errorf("Decode of %s: %x, error %d", want, got, e)
		}
	}
}

// P8.1: a request with attributes whose values end in three ways, as others write it.
func TestOctetsOfAnotherProgram(t *testing.T) {
	s := unhex("00010060 2112a442 78ad3433c6ad72c029da412e" +
		"00060012 e3839ee38388e383aae38383e382afe382b9 0000" +
		"0015001c 662f2f3439396b39353464364f4c33346f4c394653547679363473 41" +
		"0014000b 6578616d706c652e6f7267 00" +
		"00080014 f67024656dd64a3e02b8e0712e85c9a28ca89666")
	m := api.Stun{Method: 1, Id: unhex("78ad3433c6ad72c029da412e"), Attrs: []api.StunAttr{
		{Kind: api.StunUser, Value: "マトリックス"},
		{Kind: api.StunNonce, Value: "f//499k954d6OL34oL9FSTvy64sA"},
		{Kind: api.StunRealm, Value: "example.org"},
		{Kind: api.StunIntegrity, Value: s[len(s)-20:]},
	}}
	if got, e := Decode(s); !same(got, m) || e != api.OK {
		t.Errorf("Decode: %x, error %d", got, e)
	}
	if got, e := Encode(m); got != s || e != api.OK {
		t.Errorf("Encode: %x, error %d", got, e)
	}
}

// P8.1: all types.
func TestTypes(t *testing.T) {
	for class := range 4 {
		for method := range 4096 {
			m := api.Stun{Class: class, Method: method, Id: someId}
			s, e := Encode(m)
			if s != byChapter(m, 0) || e != api.OK {
				t.Fatalf("Encode of class %d, method %d: %x, error %d", class, method, s, e)
			}
			if got, e := Decode(s); !same(got, m) || e != api.OK {
				t.Fatalf("Decode of class %d, method %d: %v, error %d", class, method, got, e)
			}
		}
	}
	for first := range 256 {
		for second := range 256 {
			compareDecode(t, string([]byte{byte(first), byte(second)})+byChapter(ask(), 0)[2:])
		}
	}
}

// P8.1, P8.6
func TestCheckEncodeDecode(t *testing.T) {
	for _, m := range messages() {
		if e := Check(m); e != api.OK {
			t.Errorf("Check of %x: error %d", m, e)
		}
		s, e := Encode(m)
		if s != byChapter(m, 0) || e != api.OK {
			t.Errorf("Encode of %x: %x, error %d", m, s, e)
		}
		if got, e := Decode(s); !same(got, m) || e != api.OK {
			t.Errorf("Decode of %x: %x, error %d, not %x", s, got, e, m)
		}
	}
}

// All promises: ErrStun comes ahead of all other errors.
func TestWrongMessages(t *testing.T) {
	long := text(4097, 1)
	for _, m := range wrongMessages() {
		s, e := Encode(m)
		value, findError := Find(m, api.StunData)
		kinds, kindsError := Unknown(m)
		protected, protectError := Protect(m, "k")
		longProtected, longError := Protect(m, long)
		marked, markError := Mark(m)
		for i, e := range []api.Errno{Check(m), e, findError, kindsError, protectError, longError, markError, Verify(m, "k"), Verify(m, long), Marked(m)} {
			if e != api.ErrStun {
				t.Errorf("function %d of %x: error %d", i, m, e)
			}
		}
		if s != "" || value != "" || len(kinds) != 0 {
			t.Errorf("%x: results %q, %q, %v", m, s, value, kinds)
		}
		for _, m := range []api.Stun{protected, longProtected, marked} {
			if !reflect.ValueOf(m).IsZero() {
				t.Errorf("a message %x beside an error", m)
			}
		}
	}
	if api.ErrStun != 80 {
		t.Error("ErrStun has another number")
	}
}

// P8.1: octets that end too early, and such as go on.
func TestDecodeParts(t *testing.T) {
	for _, m := range messages() {
		s := byChapter(m, 0)
		for n := range len(s) {
			if got, e := Decode(s[:n]); e != api.ErrShort || !reflect.ValueOf(got).IsZero() {
				t.Fatalf("Decode of the first %d of %d octets: %x, error %d", n, len(s), got, e)
			}
		}
		for n := 1; len(s)+n <= 1200 && n < 10; n++ {
			if got, e := Decode(s + zeros(n)); e != api.ErrForm || !reflect.ValueOf(got).IsZero() {
				t.Fatalf("Decode of %d octets and %d more: %x, error %d", len(s), n, got, e)
			}
		}
	}
}

// P8.1: which error comes first.
func TestDecodeErrors(t *testing.T) {
	large, head := byChapter(ofSize(1200), 0), byChapter(ask(), 0)
	for want, list := range map[api.Errno][]string{
		api.ErrLong: {large + "x", zeros(1201), strings.Repeat("\xff", 1201), large + large, text(1<<20, 1)},
		api.ErrShort: {"", "x", zeros(19), head[:19], strings.Repeat("\xff", 1200), strings.Repeat("\xff", 20),
			zeros(2) + "\x00\x01" + zeros(16), "\xff\xff\x00\x04" + head[4:], head[:2] + "\x00\x04" + head[4:], head[:2] + "\x04\x9d" + large[4:], head[:2] + "\xff\xff" + large[4:]},
		api.ErrForm: {zeros(20), head + "x", head + zeros(4), head[:2] + "\x00\x04" + head[4:] + zeros(5), head[:2] + "\x00\x01" + head[4:] + "x",
			head[:2] + "\x00\x02" + head[4:] + "xx", head[:2] + "\x00\x03" + head[4:] + "xxx", head[:2] + "\x00\x06" + head[4:] + "\x00\x06\x00\x02ab", head[:2] + "\x00\x08" + head[4:] + "\x00\x06\x00\x05abcd",
			head[:2] + "\x00\x04" + head[4:] + "\x00\x06\xff\xff", head[:2] + "\x00\x08" + head[4:] + "\x00\x06\x00\x02ab\x00\x01", head[:2] + "\x00\x08" + head[4:] + "\x00\x06\x00\x02ab\x01\x00",
			head[:2] + "\x00\x08" + head[4:] + "\x00\x06\x00\x03abcd", byChapter(ask(some(31, 0)...), 0), byChapter(ask(some(1, 764)...), 0), byChapter(ask(some(1, 1100)...), 0), zeros(1200)},
	} {
		for _, s := range list {
			m, e := Decode(s)
			if e != want || !reflect.ValueOf(m).IsZero() {
				t.Errorf("Decode of %x: %x, error %d, not %d", s, m, e, want)
			}
		}
	}
	if _, e := Decode(large); e != api.OK {
		t.Errorf("Decode of 1200 octets: error %d", e)
	}
}

// P8.1, P8.6: each octet changed to each value, and lengths and numbers of octets that are some more or less.
func TestDecodeChanged(t *testing.T) {
	m := api.Stun{Class: 2, Method: 0x123, Id: text(12, 5), Attrs: []api.StunAttr{{Kind: 6, Value: "abcde"}, {Kind: 7}, {Kind: 32800, Value: "abc"}, {Kind: 8, Value: "ab"}, {Kind: 9, Value: "abcd"}}}
	s := byChapter(m, 0)
	for at := range len(s) {
		for octet := range 256 {
			changed := s[:at] + string([]byte{byte(octet)}) + s[at+1:]
			compareDecode(t, changed)
			compareDecode(t, changed+zeros(4))
			compareDecode(t, changed[:len(s)-4])
		}
	}
	for length := range 1300 {
		for _, s := range []string{s, byChapter(ofSize(1200), 0), byChapter(ask(some(30, 0)...), 0)} {
			compareDecode(t, s[:2]+string([]byte{byte(length >> 8), byte(length)})+s[4:])
		}
	}
}

// P8.1: octets behind a right head that are put together of those which attributes begin with.
func TestDecodeManyBodies(t *testing.T) {
	for n := range 4096 {
		body := ""
		for rest := n; rest > 0; rest /= 8 {
			body += []string{"\x00\x06\x00\x02", "\x00\x08\x00\x00", "ab\x00\x00", "abcd", "\x00\x00\x00\x04", "\x80\x28\x00\x01", "a\x00\x00\x00", "\x00\x14\x00\x07"}[rest%8]
		}
		compareDecode(t, "\x01\x01\x00"+string([]byte{byte(len(body))})+"\x21\x12\xa4\x42"+someId+body)
	}
}

// P8.1, P8.6
func FuzzDecode(f *testing.F) {
	for _, m := range messages() {
		f.Add(byChapter(m, 0))
	}
	f.Add("")
	f.Add(byChapter(ask(some(31, 0)...), 0))
	f.Add(byChapter(ask(), 4) + "\x00\x06\x00\x02")
	f.Fuzz(func(t *testing.T, s string) {
		compareDecode(t, s)
		// With a right head more of what is tried is read to its end.
		if len(s) < 1200 {
			compareDecode(t, "\x00\x01"+string([]byte{byte(len(s) >> 8), byte(len(s))})+"\x21\x12\xa4\x42"+someId+s)
		}
	})
}
