package stun

import (
	"math"
	"slices"
	"testing"

	"tannoy/api"
)

// ofKinds returns a message with attributes of the kinds, whose values are those of their places.
func ofKinds(kinds ...int) api.Stun {
	m := ask()
	for place, kind := range kinds {
		m.Attrs = append(m.Attrs, api.StunAttr{Kind: kind, Value: text(place, kind+place)})
	}
	return m
}

// knownByChapter are the known ones of the kinds that must be understood.
func knownByChapter() []int {
	return []int{1, 6, 8, 9, 10, 12, 13, 18, 19, 20, 21, 22, 25, 32, 36, 37}
}

// P8.2
func TestFind(t *testing.T) {
	for _, m := range messages() {
		for place, a := range m.Attrs {
			first := place
			for i := place; i >= 0; i-- {
				if m.Attrs[i].Kind == a.Kind {
					first = i
				}
			}
			if value, e := Find(m, a.Kind); value != m.Attrs[first].Value || e != api.OK {
				t.Errorf("Find of %d in %x: %q, error %d", a.Kind, m, value, e)
			}
		}
	}
	m := ofKinds(6, 5, 32800, 5)
	if value, e := Find(m, 6); value != m.Attrs[0].Value || e != api.OK {
		t.Errorf("Find of 6: %q, error %d", value, e)
	}
	if value, e := Find(m, 5); value != m.Attrs[1].Value || e != api.OK {
		t.Errorf("Find of 5: %q, error %d", value, e)
	}
	if value, e := Find(m, 32800); value != m.Attrs[2].Value || e != api.OK {
		t.Errorf("Find of 32800: %q, error %d", value, e)
	}
	if value, e := Find(ofKinds(0, 65535), 65535); len(value) != 1 || e != api.OK {
		t.Errorf("Find of 65535: %q, error %d", value, e)
	}
}

// P8.2: an attribute without octets is found, and a kind that is none is not.
func TestFindNone(t *testing.T) {
	if value, e := Find(ofKinds(9), 9); value != "" || e != api.OK {
		t.Errorf("Find of an attribute without octets: %q, error %d", value, e)
	}
	for _, kind := range []int{math.MinInt, -65530, -6, -1, 0, 1, 7, 33, 32773, 65535, 65536, 65542, 1<<32 + 6, math.MaxInt} {
		for _, m := range []api.Stun{ask(), ofKinds(6, 5, 32800, 5)} {
			if value, e := Find(m, kind); value != "" || e != api.ErrNone {
				t.Errorf("Find of %d in %x: %q, error %d", kind, m, value, e)
			}
		}
	}
}

// P8.2
func TestUnknown(t *testing.T) {
	for _, row := range []struct{ kinds, want []int }{
		{nil, nil},
		{[]int{6, 5, 32800, 5}, []int{5}},
		{[]int{5, 4, 5, 3, 4, 3, 2}, []int{5, 4, 3, 2}},
		{[]int{32767, 32768, 0, 65535}, []int{32767, 0}},
		{[]int{38, 35, 33, 31, 26, 24, 23, 17, 14, 11, 7, 5, 2, 0}, []int{38, 35, 33, 31, 26, 24, 23, 17, 14, 11, 7, 5, 2, 0}},
		{knownByChapter(), nil},
		{append(knownByChapter(), 32808, 32809, 32810), nil},
		{append(append(knownByChapter(), 40), knownByChapter()[:13]...), []int{40}},
	} {
		if got, e := Unknown(ofKinds(row.kinds...)); !slices.Equal(got, row.want) || e != api.OK {
			t.Errorf("Unknown of %v: %v, error %d, not %v", row.kinds, got, e, row.want)
		}
	}
}

// P8.2: each kind by itself, and between others.
func TestUnknownKinds(t *testing.T) {
	for kind := range 65536 {
		var want []int
		if kind < 32768 && !slices.Contains(knownByChapter(), kind) {
			want = []int{kind}
		}
		if got, e := Unknown(ofKinds(kind)); !slices.Equal(got, want) || e != api.OK {
			t.Fatalf("Unknown of %d: %v, error %d", kind, got, e)
		}
		if got, e := Unknown(ofKinds(6, kind, 32808, kind, 8)); !slices.Equal(got, want) || e != api.OK {
			t.Fatalf("Unknown of %d among others: %v, error %d", kind, got, e)
		}
	}
}

// P8.2: what was unknown in one message, and what is done with a result, does not tell in the next call.
func TestUnknownAgain(t *testing.T) {
	for range 3 {
		got, e := Unknown(ofKinds(5, 7))
		if !slices.Equal(got, []int{5, 7}) || e != api.OK {
			t.Fatalf("Unknown: %v, error %d", got, e)
		}
		got[0], got[1] = 99, 99
	}
}
