package stun

import (
	"crypto/hmac"
	"crypto/sha256"
	"encoding/binary"
	"hash/crc32"
	"reflect"
	"slices"
	"testing"

	"tannoy/api"
)

// ahead is m with the attributes ahead of the place alone.
func ahead(m api.Stun, place int) api.Stun {
	m.Attrs = m.Attrs[:place]
	return m
}

// codeByChapter is the integrity value at the place in m, made with the library.
func codeByChapter(m api.Stun, place int, key string) string {
	h := hmac.New(sha256.New, []byte(key))
	h.Write([]byte(byChapter(ahead(m, place), 36)))
	return string(h.Sum(nil))
}

// fingerByChapter is the fingerprint value at the place in m, made with the library.
func fingerByChapter(m api.Stun, place int) string {
	check := crc32.ChecksumIEEE([]byte(byChapter(ahead(m, place), 8)))
	return string(binary.BigEndian.AppendUint32(nil, check^0x5354554e))
}

// with returns m with attributes behind its own ones, in new memory.
func with(m api.Stun, attrs ...api.StunAttr) api.Stun {
	m.Attrs = slices.Concat(m.Attrs, attrs)
	return m
}

// without returns m without its attributes of the kinds that protect it.
func without(m api.Stun) api.Stun {
	m.Attrs = slices.DeleteFunc(slices.Clone(m.Attrs), func(a api.StunAttr) bool {
		return a.Kind == api.StunIntegrity || a.Kind == api.StunFinger
	})
	return m
}

// changes are valid messages that differ from m in one thing, other than the attributes from the place on.
func changes(m api.Stun, place int) []api.Stun {
	var list []api.Stun
	for class := range 4 {
		c := m
		c.Class = class
		list = append(list, c)
	}
	for bit := range 12 {
		c := m
		c.Method ^= 1 << bit
		list = append(list, c)
		c = m
		id := []byte(m.Id)
		id[bit] ^= 1 << (bit % 8)
		c.Id = string(id)
		list = append(list, c)
	}
	for i := range place {
		a := m.Attrs[i]
		for _, other := range []api.StunAttr{{Kind: a.Kind ^ 0x4000, Value: a.Value}, {Kind: a.Kind, Value: a.Value + "\x00"}, {Kind: a.Kind, Value: "x" + a.Value}} {
			c := m
			c.Attrs = slices.Clone(m.Attrs)
			c.Attrs[i] = other
			list = append(list, c)
		}
		c := m
		c.Attrs = slices.Delete(slices.Clone(m.Attrs), i, i+1)
		list = append(list, c)
	}
	c := m
	c.Attrs = slices.Insert(slices.Clone(m.Attrs), 0, api.StunAttr{Kind: 7})
	list = append(list, c)
	return slices.DeleteFunc(list, func(c api.Stun) bool {
		return same(c, m) || Check(c) != api.OK
	})
}

func keys() []string {
	return []string{"", "k", "l", zeros(64), text(63, 1), text(64, 1), text(65, 1), text(4095, 1), text(4096, 1)}
}

// P8.4, P8.5
func TestKnownGuards(t *testing.T) {
	code := "76f90dc7e7053efc5a8fd7badb0162e427b836efa215a9484d6fd0ecfaf604d4"
	protected, e := Protect(ask(), "k")
	if !same(protected, ask(api.StunAttr{Kind: 8, Value: unhex(code)})) || e != api.OK {
		t.Fatalf("Protect: %x, error %d", protected, e)
	}
	for want, m := range map[string]api.Stun{
		"000100082112a442000102030405060708090a0b802800045b0ff6fc":                          ask(),
		"0001002c2112a442000102030405060708090a0b00080020" + code + "80280004" + "6e6d7029": protected,
	} {
		marked, e := Mark(m)
		if e != api.OK {
			t.Errorf("Mark of %x: error %d", m, e)
		}
		if s, e := Encode(marked); s != unhex(want) || e != api.OK {
			t.Errorf("Mark of %x: %x, error %d, not %s", m, s, e, want)
		}
	}
	if e := Verify(ask(), "k"); e != api.ErrNone {
		t.Errorf("Verify of a message that is not protected: error %d", e)
	}
	if e := Verify(protected, "k"); e != api.OK {
		t.Errorf("Verify: error %d", e)
	}
	if e := Verify(protected, "l"); e != api.ErrAuth {
		t.Errorf("Verify with another key: error %d", e)
	}
}

// P8.4, P8.6
func TestProtect(t *testing.T) {
	for _, m := range messages() {
		m = without(m)
		if len(m.Attrs) == 30 || len(byChapter(m, 0)) > 1164 {
			continue
		}
		for _, key := range keys() {
			want := with(m, api.StunAttr{Kind: 8, Value: codeByChapter(m, len(m.Attrs), key)})
			protected, e := Protect(m, key)
			if !same(protected, want) || e != api.OK {
				t.Fatalf("Protect of %x with %q: %x, error %d", m, key, protected, e)
			}
			if e := Verify(protected, key); e != api.OK {
				t.Fatalf("Verify of %x with %q: error %d", protected, key, e)
			}
			// Short keys that differ only in octets 0 behind them have the same codes, so the other one differs in more.
			if e := Verify(protected, "other"); e != api.ErrAuth {
				t.Fatalf("Verify of %x with another key than %q: error %d", protected, key, e)
			}
		}
	}
}

// P8.4, P8.6: whatever is changed ahead of the code, and whatever behind it.
func TestVerifyChanged(t *testing.T) {
	m := api.Stun{Class: 1, Method: 3, Id: someId, Attrs: []api.StunAttr{{Kind: 6, Value: "abcde"}, {Kind: 9}, {Kind: 6, Value: "xyz\x00"}}}
	protected, _ := Protect(m, "k")
	marked, e := Mark(protected)
	if e != api.OK || Verify(marked, "k") != api.OK || Marked(marked) != api.OK {
		t.Fatalf("Mark of what is protected: %x, error %d", marked, e)
	}
	for _, m := range []api.Stun{protected, marked} {
		for _, c := range changes(m, 3) {
			if e := Verify(c, "k"); e != api.ErrAuth {
				t.Errorf("Verify of %x: error %d", c, e)
			}
		}
	}
	swapped := with(protected)
	swapped.Attrs[0], swapped.Attrs[2] = swapped.Attrs[2], swapped.Attrs[0]
	if e := Verify(swapped, "k"); e != api.ErrAuth {
		t.Errorf("Verify of attributes that were swapped: error %d", e)
	}
	wrong := api.StunAttr{Kind: 8, Value: "x"}
	for _, m := range []api.Stun{with(protected, some(3, 50)...), with(protected, wrong), with(protected, api.StunAttr{Kind: 32808}, wrong, wrong), with(protected, some(26, 0)...)} {
		if e := Verify(m, "k"); e != api.OK {
			t.Errorf("Verify of %x: error %d", m, e)
		}
	}
	if e := Verify(with(m, wrong, protected.Attrs[3]), "k"); e != api.ErrAuth {
		t.Errorf("Verify of a wrong code ahead of a right one: error %d", e)
	}
}

// P8.4: codes at all places, right ones and such as differ from them in any bit or in the number of octets.
func TestVerifyPlaces(t *testing.T) {
	m := ask(some(5, 7)...)
	for place := range 6 {
		code := codeByChapter(m, place, "key")
		at := func(value string) api.Stun {
			c := m
			c.Attrs = slices.Insert(slices.Clone(m.Attrs), place, api.StunAttr{Kind: 8, Value: value})
			return c
		}
		if e := Verify(at(code), "key"); e != api.OK {
			t.Errorf("Verify of a code at the place %d: error %d", place, e)
		}
		wrong := []string{"", code[:31], code + "\x00", code + code, zeros(32), code[1:] + code[:1], text(763, 1), code[:20], codeByChapter(m, (place+1)%6, "key")}
		for bit := range 256 {
			b := []byte(code)
			b[bit/8] ^= 1 << (bit % 8)
			wrong = append(wrong, string(b))
		}
		for _, value := range wrong {
			if e := Verify(at(value), "key"); e != api.ErrAuth {
				t.Errorf("Verify of %x at the place %d: error %d", value, place, e)
			}
		}
	}
}

// P8.4: codes in messages whose length, greater by 36, is that of no message.
func TestVerifyAtTheEnd(t *testing.T) {
	for _, size := range []int{1160, 1164, 1168, 1192, 1196} {
		m := with(ofSize(size), api.StunAttr{Kind: 8})
		if e := Verify(m, "k"); e != api.ErrAuth {
			t.Errorf("Verify of a code behind %d octets: error %d", size, e)
		}
	}
}

// P8.4
func TestProtectErrors(t *testing.T) {
	long := text(4097, 1)
	guards := []api.StunAttr{{Kind: 8}, {Kind: 32808}}
	full := ask(some(30, 3)...)
	for want, list := range map[api.Errno][]api.Stun{
		api.ErrArg:  {ask(guards[0]), ask(guards[1]), ask(guards...), with(ask(guards[0]), some(3, 3)...), with(ask(some(3, 3)...), guards[1]), with(ask(some(29, 3)...), guards[0]), with(ask(guards[1]), some(29, 3)...), with(ofSize(1196), guards[0])},
		api.ErrLong: {full, ask(some(30, 0)...), ofSize(1200), ofSize(1196), ofSize(1180), ofSize(1168)},
		api.OK:      {ask(), ask(some(29, 3)...), ofSize(1164), ofSize(1160), ask(api.StunAttr{Kind: 9}, api.StunAttr{Kind: 7}, api.StunAttr{Kind: 32809}, api.StunAttr{Kind: 32807})},
	} {
		for _, m := range list {
			protected, e := Protect(m, "k")
			if e != want || e != api.OK && !reflect.ValueOf(protected).IsZero() {
				t.Errorf("Protect of %x: %x, error %d, not %d", m, protected, e, want)
			}
			// A key that is too long comes ahead of what the attributes are.
			if protected, e := Protect(m, long); e != api.ErrLong || !reflect.ValueOf(protected).IsZero() {
				t.Errorf("Protect of %x with a long key: %x, error %d", m, protected, e)
			}
			if e := Verify(m, long); e != api.ErrLong {
				t.Errorf("Verify of %x with a long key: error %d", m, e)
			}
		}
	}
	for _, m := range messages() {
		if m = without(m); Verify(m, "k") != api.ErrNone {
			t.Errorf("Verify of %x: error %d", m, Verify(m, "k"))
		}
	}
	for _, a := range []api.StunAttr{{Kind: 32808}, {Kind: 7}, {Kind: 9}, {Kind: 32776}} {
		m := ask(a, a)
		if e := Verify(m, "k"); e != api.ErrNone {
			t.Errorf("Verify of %x: error %d", m, e)
		}
		if e := Verify(with(m, api.StunAttr{Kind: 8, Value: codeByChapter(m, 2, "k")}), "k"); e != api.OK {
			t.Errorf("Verify of a right code behind %x: error %d", m, e)
		}
	}
}

// P8.5, P8.6
func TestMark(t *testing.T) {
	for _, m := range messages() {
		m.Attrs = slices.DeleteFunc(slices.Clone(m.Attrs), func(a api.StunAttr) bool {
			return a.Kind == api.StunFinger
		})
		if len(m.Attrs) == 30 || len(byChapter(m, 0)) > 1192 {
			continue
		}
		want := with(m, api.StunAttr{Kind: 32808, Value: fingerByChapter(m, len(m.Attrs))})
		marked, e := Mark(m)
		if !same(marked, want) || e != api.OK {
			t.Fatalf("Mark of %x: %x, error %d", m, marked, e)
		}
		if e := Marked(marked); e != api.OK {
			t.Fatalf("Marked of %x: error %d", marked, e)
		}
		if e := Marked(m); e != api.ErrNone {
			t.Fatalf("Marked of %x: error %d", m, e)
		}
	}
}

// P8.5: messages that differ from a marked one, and marks that are not the right ones, or not the last ones.
func TestMarkedChanged(t *testing.T) {
	m := api.Stun{Class: 1, Method: 3, Id: someId, Attrs: []api.StunAttr{{Kind: 6, Value: "abcde"}, {Kind: 9}, {Kind: 8, Value: text(32, 1)}}}
	marked, _ := Mark(m)
	for _, c := range changes(marked, 3) {
		if e := Marked(c); e != api.ErrAuth {
			t.Errorf("Marked of %x: error %d", c, e)
		}
	}
	finger := fingerByChapter(m, 3)
	wrong := []string{"", finger[:3], finger + "\x00", zeros(4), finger[1:] + finger[:1], text(763, 1), fingerByChapter(m, 2)}
	for bit := range 32 {
		b := []byte(finger)
		b[bit/8] ^= 1 << (bit % 8)
		wrong = append(wrong, string(b))
	}
	for _, value := range wrong {
		if e := Marked(with(m, api.StunAttr{Kind: 32808, Value: value})); e != api.ErrAuth {
			t.Errorf("Marked of the mark %x: error %d", value, e)
		}
	}
	for _, a := range []api.StunAttr{{Kind: 6}, {Kind: 8}, {Kind: 32809}, {Kind: 32807}, {Kind: 40, Value: finger}} {
		if e := Marked(with(marked, a)); e != api.ErrNone {
			t.Errorf("Marked of a mark ahead of %x: error %d", a, e)
		}
	}
	// The last mark counts, and what is ahead of it, be it a mark itself.
	twice := with(marked, api.StunAttr{Kind: 32808, Value: fingerByChapter(marked, 4)})
	if e := Marked(twice); e != api.OK {
		t.Errorf("Marked of two marks: error %d", e)
	}
	if e := Marked(with(marked, marked.Attrs[3])); e != api.ErrAuth {
		t.Errorf("Marked of the same mark twice: error %d", e)
	}
	for _, size := range []int{1192, 1196} {
		if e := Marked(with(ofSize(size), api.StunAttr{Kind: 32808})); e != api.ErrAuth {
			t.Errorf("Marked of a mark behind %d octets: error %d", size, e)
		}
	}
}

// P8.5
func TestMarkErrors(t *testing.T) {
	finger := api.StunAttr{Kind: 32808}
	for want, list := range map[api.Errno][]api.Stun{
		api.ErrArg:  {ask(finger), with(ask(finger), some(3, 3)...), with(ask(some(29, 3)...), finger), with(ask(finger), some(29, 3)...), with(ofSize(1196), finger)},
		api.ErrLong: {ask(some(30, 3)...), ask(some(30, 0)...), ofSize(1200), ofSize(1196)},
		api.OK:      {ask(), ask(some(29, 3)...), ofSize(1192), ofSize(1188), ask(api.StunAttr{Kind: 8}), ask(api.StunAttr{Kind: 32809}, api.StunAttr{Kind: 32807})},
	} {
		for _, m := range list {
			marked, e := Mark(m)
			if e != want || e != api.OK && !reflect.ValueOf(marked).IsZero() {
				t.Errorf("Mark of %x: %x, error %d, not %d", m, marked, e, want)
			}
		}
	}
}

// All promises: results are new memory, and arguments are as they were.
func TestMemory(t *testing.T) {
	spare := make([]api.StunAttr, 3, 10)
	copy(spare, some(3, 5))
	m := ask(spare...)
	protected, _ := Protect(m, "k")
	marked, _ := Mark(m)
	for _, a := range spare[:10][3:] {
		if a != (api.StunAttr{}) {
			t.Errorf("%x stands behind the argument", a)
		}
	}
	protected.Attrs[0].Kind, marked.Attrs[1].Kind = 77, 78
	if !slices.Equal(m.Attrs, some(3, 5)) || protected.Attrs[1].Kind == 78 || marked.Attrs[0].Kind == 77 {
		t.Errorf("the argument is %x, the results %x and %x", m, protected, marked)
	}
	s := byChapter(m, 0)
	one, _ := Decode(s)
	two, _ := Decode(s)
	one.Attrs[0].Kind = 77
	if !same(two, m) {
		t.Errorf("Decode: %x", two)
	}
}

// P8.4, P8.5, P8.6
func FuzzGuards(f *testing.F) {
	for i, m := range messages() {
		f.Add(byChapter(m, 0), text(i*7, i), "x")
	}
	f.Fuzz(func(t *testing.T, s, key, other string) {
		m, e := readByChapter(s)
		if e != api.OK || len(key) > 4096 {
			return
		}
		m = without(m)
		protected, e := Protect(m, key)
		if e != api.OK {
			if e != api.ErrLong || len(m.Attrs) < 30 && len(byChapter(m, 0)) <= 1164 {
				t.Errorf("Protect of %x: error %d", m, e)
			}
			return
		}
		if !same(protected, with(m, api.StunAttr{Kind: 8, Value: codeByChapter(m, len(m.Attrs), key)})) || Verify(protected, key) != api.OK {
			t.Errorf("Protect of %x: %x", m, protected)
		}
		if len(other) <= 4096 {
			if e := Verify(protected, other); (e == api.OK) != (codeByChapter(m, len(m.Attrs), other) == protected.Attrs[len(m.Attrs)].Value) {
				t.Errorf("Verify of %x with %q: error %d", protected, other, e)
			}
		}
		marked, e := Mark(protected)
		if e != api.OK {
			if len(protected.Attrs) < 30 && len(byChapter(protected, 0)) <= 1192 {
				t.Errorf("Mark of %x: error %d", protected, e)
			}
			return
		}
		if marked.Attrs[len(marked.Attrs)-1].Value != fingerByChapter(protected, len(protected.Attrs)) || Verify(marked, key) != api.OK || Marked(marked) != api.OK {
			t.Errorf("Mark of %x: %x", protected, marked)
		}
	})
}
