package seal

import (
	"encoding/binary"
	"testing"

	"tannoy/api"
	"tannoy/octets"
	"tannoy/stream"
)

// boxOf is the box, made of what the layer below makes and of a tag that is made with the library's numbers.
func boxOf(t *testing.T, key, nonce, extra, plain string) string {
	t.Helper()
	block, e := stream.Block(key, nonce, 0)
	if e != api.OK {
		t.Fatalf("Block: error %d", e)
	}
	hidden, e := stream.Apply(key, nonce, 1, plain)
	if e != api.OK {
		t.Fatalf("Apply: error %d", e)
	}
	return hidden + tagWith(block[:32], covered(extra, hidden))
}

// covered is what the tag of a box is made of.
func covered(extra, hidden string) string {
	var out []byte
	for _, part := range []string{extra, hidden} {
		out = append(out, part...)
		for len(out)%16 != 0 {
			out = append(out, 0)
		}
	}
	out = binary.LittleEndian.AppendUint64(out, uint64(len(extra)))
	out = binary.LittleEndian.AppendUint64(out, uint64(len(hidden)))
	return string(out)
}

func sealed(t *testing.T, key, nonce, extra, plain string) string {
	t.Helper()
	box, e := Seal(key, nonce, extra, plain)
	if e != api.OK {
		t.Fatalf("Seal of %d extra octets and %d: error %d", len(extra), len(plain), e)
	}
	return box
}

// refuse reports an error if the box is opened, or is refused with another error than ErrAuth.
func refuse(t *testing.T, what, key, nonce, extra, box string) {
	t.Helper()
	if s, e := Open(key, nonce, extra, box); s != "" || e != api.ErrAuth {
		t.Errorf("Open, %s: %q, error %d", what, s, e)
	}
}

// changed returns s with a bit of the octet at i changed.
func changed(s string, i, bit int) string {
	b := []byte(s)
	b[i] ^= 1 << bit
	return string(b)
}

// P4.2
func TestSealAndOpenKnownTexts(t *testing.T) {
	none, all := octets.Hex(zeros(32)), octets.Hex(full(32))
	for _, x := range []struct{ key, nonce, extra, plain, want string }{
		{
			"808182838485868788898a8b8c8d8e8f909192939495969798999a9b9c9d9e9f", "070000004041424344454647", "50515253c0c1c2c3c4c5c6c7",
			octets.Hex("Ladies and Gentlemen of the class of '99: If I could offer you only one tip for the future, sunscreen would be it."),
			"d31a8d34648e60db7b86afbc53ef7ec2a4aded51296e08fea9e2b5a736ee62d63dbea45e8ca9671282fafb69da92728b1a71de0a9e060b2905d6a5b67ecd3b3692ddbd7f2d778b8c9803aee328091b58fab324e4fad675945585808b4831d7bc3ff4def08e4b7a9de576d26586cec64b61161ae10b594f09e26a7e902ecbd0600691",
		},
		{
			"1c9240a5eb55d38af333888604f6b5f0473917c1402b80099dca5cbc207075c0", "000000000102030405060708", "f33388860000000000004e91",
			octets.Hex("Internet-Drafts are draft documents valid for a maximum of six months and may be updated, replaced, or obsoleted by other documents at any time. It is inappropriate to use Internet-Drafts as reference material or to cite them other than as /\u201cwork in progress./\u201d"),
			"64a0861575861af460f062c79be643bd5e805cfd345cf389f108670ac76c8cb24c6cfc18755d43eea09ee94e382d26b0bdb7b73c321b0100d4f03b7f355894cf332f830e710b97ce98c8a84abd0b948114ad176e008d33bd60f982b1ff37c8559797a06ef4f0ef61c186324e2b3506383606907b6a7c02b0f9f6157b53c867e4b9166c767b804d46a59b5216cde7a4e99040c5a40433225ee282a1b0a06c523eaf4534d7f83fa1155b0047718cbc546a0d072b04b3564eea1b422273f548271a0bb2316053fa76991955ebd63159434ecebb4e466dae5a1073a6727627097a1049e617d91d361094fa68f0ff77987130305beaba2eda04df997b714d6c6f2c29a6ad5cb4022b02709beead9d67890cbb22392336fea1851f38",
		},
		{none, none[:24], "", "", "4eb972c9a8fb3a1b382bb4d36f5ffad1"},
		{none, none[:24], "00", "", "a62278e70d8adab9e6dc2a4e4a93f149"},
		{none, none[:24], "", "00", "9fbedcfd1809ff3c10adf8277fcc0581b8"},
		{all, all[:24], all[:32], all[:32], "22d8bfc313e141bd692c82cec7785b29d8ae4f8a6eb98f32471e5fcb147b5e40"},
	} {
		key, nonce, extra, plain := unhex(t, x.key), unhex(t, x.nonce), unhex(t, x.extra), unhex(t, x.plain)
		if box, e := Seal(key, nonce, extra, plain); octets.Hex(box) != x.want || e != api.OK {
			t.Errorf("Seal of %s and %s: %s, error %d", x.extra, x.plain, octets.Hex(box), e)
		}
		if s, e := Open(key, nonce, extra, unhex(t, x.want)); s != plain || e != api.OK {
			t.Errorf("Open of %s: %q, error %d", x.want, s, e)
		}
	}
}

// P4.2, P4.3: what is sealed is the box, and is opened again, at all ways in which the parts may end, and for the longest ones.
func TestSealAndOpen(t *testing.T) {
	lengths := []int{0, 1, 2, 7, 8, 9, 15, 16, 17, 31, 32, 33, 47, 48, 49, 63, 64, 65, 127, 128, 255, 256, 257, 1200, 4079, 4080, 4081, 4095, 4096}
	for _, n := range lengths {
		for _, m := range lengths {
			key, nonce, extra, plain := text(32, n), text(12, m), text(n, m+1), text(m, n+2)
			box, e := Seal(key, nonce, extra, plain)
			if box != boxOf(t, key, nonce, extra, plain) || len(box) != m+16 || e != api.OK {
				t.Errorf("Seal of %d extra octets and %d: %s, error %d", n, m, octets.Hex(box), e)
			}
			if s, e := Open(key, nonce, extra, box); s != plain || e != api.OK {
				t.Errorf("Open of Seal of %d extra octets and %d: %s, error %d", n, m, octets.Hex(s), e)
			}
		}
	}
}

// P4.2: what is no key or no nonce comes first, then too long octets, then a box that is too short.
func TestSealAndOpenErrors(t *testing.T) {
	key, nonce := text(32, 1), text(12, 2)
	for _, x := range []struct {
		key, nonce    int
		extra, second int
		seal, open    api.Errno
	}{
		{31, 12, 0, 20, api.ErrArg, api.ErrArg},
		{33, 12, 0, 20, api.ErrArg, api.ErrArg},
		{0, 12, 0, 20, api.ErrArg, api.ErrArg},
		{12, 32, 0, 20, api.ErrArg, api.ErrArg},
		{32, 11, 0, 20, api.ErrArg, api.ErrArg},
		{32, 13, 0, 20, api.ErrArg, api.ErrArg},
		{32, 0, 0, 20, api.ErrArg, api.ErrArg},
		{31, 12, 4097, 5000, api.ErrArg, api.ErrArg},
		{32, 13, 4097, 5000, api.ErrArg, api.ErrArg},
		{0, 0, 0, 0, api.ErrArg, api.ErrArg},
		{32, 11, 0, 15, api.ErrArg, api.ErrArg},
		{32, 12, 4097, 20, api.ErrLong, api.ErrLong},
		{32, 12, 4097, 0, api.ErrLong, api.ErrLong},
		{32, 12, 4097, 15, api.ErrLong, api.ErrLong},
		{32, 12, 1 << 20, 1 << 20, api.ErrLong, api.ErrLong},
		{32, 12, 0, 4097, api.ErrLong, api.ErrAuth},
		{32, 12, 4096, 4097, api.ErrLong, api.ErrAuth},
		{32, 12, 0, 4112, api.ErrLong, api.ErrAuth},
		{32, 12, 0, 4113, api.ErrLong, api.ErrLong},
		{32, 12, 4096, 4113, api.ErrLong, api.ErrLong},
		{32, 12, 0, 1 << 20, api.ErrLong, api.ErrLong},
	} {
		a, b, extra, second := text(x.key, 1), text(x.nonce, 2), text(x.extra, 3), text(x.second, 4)
		if s, e := Seal(a, b, extra, second); s != "" || e != x.seal {
			t.Errorf("Seal with %v: %q, error %d", x, s, e)
		}
		if s, e := Open(a, b, extra, second); s != "" || e != x.open {
			t.Errorf("Open with %v: %q, error %d", x, s, e)
		}
	}
	box := sealed(t, key, nonce, "", "")
	for n := range 16 {
		for _, extra := range []string{"", text(4096, 3)} {
			if s, e := Open(key, nonce, extra, box[:n]); s != "" || e != api.ErrShort {
				t.Errorf("Open of %d octets: %q, error %d", n, s, e)
			}
		}
	}
}

// P4.2: whatever is changed, what comes out is no box any more.
func TestOpenOfChangedArguments(t *testing.T) {
	for _, n := range []int{0, 1, 16, 50} {
		key, nonce, extra, plain := text(32, 1), text(12, 2), text(n, 3), text(n, 4)
		box := sealed(t, key, nonce, extra, plain)
		for bit := range 8 {
			for i := range box {
				refuse(t, "a bit of the box", key, nonce, extra, changed(box, i, bit))
			}
			for i := range extra {
				refuse(t, "a bit of the extra octets", key, nonce, changed(extra, i, bit), box)
			}
			for i := range key {
				refuse(t, "a bit of the key", changed(key, i, bit), nonce, extra, box)
			}
			for i := range nonce {
				refuse(t, "a bit of the nonce", key, changed(nonce, i, bit), extra, box)
			}
		}
	}
}

// P4.2
func TestOpenOfBoxesOfOtherLengths(t *testing.T) {
	key, nonce, extra, plain := text(32, 1), text(12, 2), text(20, 3), text(40, 4)
	box := sealed(t, key, nonce, extra, plain)
	hidden, tag := box[:40], box[40:]
	for n := range 40 {
		refuse(t, "octets missing at the end", key, nonce, extra, box[:16+n])
		refuse(t, "octets missing in the beginning", key, nonce, extra, box[40-n:])
		refuse(t, "octets missing before the tag", key, nonce, extra, hidden[:n]+tag)
		refuse(t, "octets behind the tag", key, nonce, extra, box+zeros(n+1))
		refuse(t, "octets before the tag", key, nonce, extra, hidden+zeros(n+1)+tag)
		refuse(t, "octets behind the extra ones", key, nonce, extra+zeros(n+1), box)
		refuse(t, "octets of the box among the extra ones", key, nonce, extra+hidden[:n+1], box[n+1:])
	}
	for n := range extra {
		refuse(t, "extra octets missing", key, nonce, extra[:n], box)
		refuse(t, "extra octets in the box", key, nonce, extra[:n], extra[n:]+box)
	}
	refuse(t, "a tag alone", key, nonce, extra, tag)
	refuse(t, "octets 0", key, nonce, extra, zeros(16))
	refuse(t, "plain octets", key, nonce, extra, plain+tag)
}

// P4.2: how many octets there are is part of the box: octets 0 at the end of one part are not those that fill it up.
func TestOctets0AtTheEnds(t *testing.T) {
	key, nonce := text(32, 1), text(12, 2)
	box := sealed(t, key, nonce, "", "")
	for n := 1; n <= 32; n++ {
		refuse(t, "extra octets 0", key, nonce, zeros(n), box)
	}
	// The first part of this box has octets 0 only, as many as would fill it up.
	hidden := zeros(16)
	plain, e := stream.Apply(key, nonce, 1, hidden)
	if e != api.OK {
		t.Fatalf("Apply: error %d", e)
	}
	tag := sealed(t, key, nonce, "x", plain)[16:]
	for n := range 40 {
		s, e := Open(key, nonce, "x", zeros(n)+tag)
		if n == 16 && (s != plain || e != api.OK) || n != 16 && (s != "" || e != api.ErrAuth) {
			t.Errorf("Open of %d octets 0 and the tag: %q, error %d", n, s, e)
		}
	}
}

// P4.3: of all the tags that differ little from the right one, and of some others, only the right one is taken.
func TestOneBoxForEachPlainOctets(t *testing.T) {
	key, nonce, extra := text(32, 1), text(12, 2), text(13, 3)
	seen := map[string]bool{}
	for i := range 256 {
		plain := string([]byte{byte(i)})
		box := sealed(t, key, nonce, extra, plain)
		if again := sealed(t, key, nonce, extra, plain); again != box {
			t.Errorf("Seal of %q: %s, and again %s", plain, octets.Hex(box), octets.Hex(again))
		}
		if seen[box[:1]] || seen[box[1:]] {
			t.Errorf("Seal of %q: %s, which has parts of another one", plain, octets.Hex(box))
		}
		seen[box[:1]], seen[box[1:]] = true, true
		for j := range 16 {
			for _, by := range []byte{1, 2, 128, 255} {
				b := []byte(box)
				b[1+j] += by
				refuse(t, "another tag", key, nonce, extra, string(b))
			}
		}
		other := sealed(t, key, nonce, extra, string([]byte{byte(i + 1)}))
		refuse(t, "the tag of other octets", key, nonce, extra, box[:1]+other[1:])
	}
}

// P4.2, P4.3: what Open takes is what Seal makes, and nothing else, of the same key, nonce and extra octets.
func FuzzOpen(f *testing.F) {
	key, nonce := text(32, 1), text(12, 2)
	box, _ := Seal(key, nonce, "abc", "some octets")
	f.Add(key, nonce, "abc", box)
	f.Add(key, nonce, "", "")
	f.Fuzz(func(t *testing.T, key, nonce, extra, box string) {
		plain, e := Open(key, nonce, extra, box)
		if e != api.OK && plain != "" {
			t.Errorf("Open: %q with the error %d", plain, e)
		}
		if again, _ := Seal(key, nonce, extra, plain); e == api.OK && again != box {
			t.Errorf("Open of %q, of which Seal makes %q", box, again)
		}
		// What is read as a box is as well plain octets.
		if made, e := Seal(key, nonce, extra, box); e == api.OK {
			if s, e := Open(key, nonce, extra, made); s != box || e != api.OK {
				t.Errorf("Open of Seal of %q: %q, error %d", box, s, e)
			}
		}
	})
}
