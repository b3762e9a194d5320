package aead_test

import (
	"bytes"
	"crypto/sha256"
	"encoding/binary"
	"math/rand"
	"testing"

	"escutcheon/aead"
	"escutcheon/api"
	"escutcheon/chacha"
	"escutcheon/wire"
)

const (
	ladies = "Ladies and Gentlemen of the class of '99: If I could offer you only one tip for the future, sunscreen would be it."
	drafts = "Internet-Drafts are draft documents valid for a maximum of six months and may be updated, replaced, or obsoleted by other documents at any time. It is inappropriate to use Internet-Drafts as reference material or to cite them other than as /“work in progress./”"
)

// The two texts that RFC 8439 prints, sealed.
func TestKnownTexts(t *testing.T) {
	for _, x := range []struct{ key, nonce, ad, plain, c, mark string }{
		{
			"808182838485868788898a8b8c8d8e8f909192939495969798999a9b9c9d9e9f", "070000004041424344454647", "50515253c0c1c2c3c4c5c6c7", ladies,
			"d31a8d34648e60db7b86afbc53ef7ec2a4aded51296e08fea9e2b5a736ee62d63dbea45e8ca9671282fafb69da92728b1a71de0a9e060b2905d6a5b67ecd3b3692ddbd7f2d778b8c9803aee328091b58fab324e4fad675945585808b4831d7bc3ff4def08e4b7a9de576d26586cec64b6116",
			"1ae10b594f09e26a7e902ecbd0600691",
		},
		{
			"1c9240a5eb55d38af333888604f6b5f0473917c1402b80099dca5cbc207075c0", "000000000102030405060708", "f33388860000000000004e91", drafts,
			"64a0861575861af460f062c79be643bd5e805cfd345cf389f108670ac76c8cb24c6cfc18755d43eea09ee94e382d26b0bdb7b73c321b0100d4f03b7f355894cf332f830e710b97ce98c8a84abd0b948114ad176e008d33bd60f982b1ff37c8559797a06ef4f0ef61c186324e2b3506383606907b6a7c02b0f9f6157b53c867e4b9166c767b804d46a59b5216cde7a4e99040c5a40433225ee282a1b0a06c523eaf4534d7f83fa1155b0047718cbc546a0d072b04b3564eea1b422273f548271a0bb2316053fa76991955ebd63159434ecebb4e466dae5a1073a6727627097a1049e617d91d361094fa68f0ff77987130305beaba2eda04df997b714d6c6f2c29a6ad5cb4022b02709b",
			"eead9d67890cbb22392336fea1851f38",
		},
	} {
		check(t, api.Key(ofHex(t, x.key)), nonce(ofHex(t, x.nonce)), ofHex(t, x.ad), []byte(x.plain), ofHex(t, x.c+x.mark))
	}
}

// Key, nonce, ad and bytes of noughts, and all of ones, as another program that keeps to RFC 8439 seals them.
func TestKnownNoughtsAndOnes(t *testing.T) {
	for _, x := range []struct {
		with      byte
		ad, plain int
		sealed    string
	}{
		{0, 0, 0, "4eb972c9a8fb3a1b382bb4d36f5ffad1"},
		{0, 0, 1, "9fbedcfd1809ff3c10adf8277fcc0581b8"},
		{0, 1, 0, "a62278e70d8adab9e6dc2a4e4a93f149"},
		{0, 16, 16, "9f07e7be5551387a98ba977c732d080d2780c8afd1d16a7c13ffb3ae7c78f3fe"},
		{0, 17, 65, "9f07e7be5551387a98ba977c732d080dcb0f29a048e3656912c6533e32ee7aed29b721769ce64e43d57133b074d839d531ed1f28510afb45ace10a1f4b794d6f2db5e51d3b43b3e6b5867772b59e06f081"},
		{255, 0, 0, "0b5528ab3ff425fbf1fce9fcfb979029"},
		{255, 0, 1, "221a97b3f469f5560d7aadccbec2978ad6"},
		{255, 1, 0, "1025d66e5d7faeff7ce9d831679832cd"},
		{255, 16, 16, "22d8bfc313e141bd692c82cec7785b29d8ae4f8a6eb98f32471e5fcb147b5e40"},
		{255, 17, 65, "22d8bfc313e141bd692c82cec7785b295f8ddae08dbbc49a2deb545ef8a39534d8c0bdab2521070568ade0405d54eebcfecd35122cb5133d931f64722e05352292ce83199f9a11a8bc58e4d8c1cd7e6f88"},
	} {
		key, n := api.Key(filled(32, x.with)), nonce(filled(12, x.with))
		check(t, key, n, filled(x.ad, x.with), filled(x.plain, x.with), ofHex(t, x.sealed))
	}
}

// All lengths of both up to several pieces and blocks; the hash is that of what such another program sealed.
func TestAllLengths(t *testing.T) {
	all := sha256.New()
	for ad := range 81 {
		for plain := range 201 {
			key, n := api.Key(counted(32, ad+plain)), nonce(counted(12, 3*ad+plain))
			sealed := aead.Seal(key, n, counted(ad, ad), counted(plain, plain))
			check(t, key, n, counted(ad, ad), counted(plain, plain), sealed)
			all.Write(sealed)
		}
	}
	if got := wire.Hex(all.Sum(nil)); got != "0077d124c8f3c9f3a882ca14d95d14cffa416e16a74dbe1774b1156ad647bff7" {
		t.Errorf("what is sealed of all lengths has the hash %s", got)
	}
}

// Lengths that need a second, a third and a fourth byte; the hash is that of what such another program sealed.
func TestManyBytes(t *testing.T) {
	all := sha256.New()
	for _, length := range []int{255, 256, 257, 4096, 1<<16 - 1, 1 << 16, 1<<16 + 1, 1<<24 - 1, 1 << 24, 1<<24 + 1} {
		key, n := api.Key(counted(32, length)), nonce(counted(12, length))
		all.Write(aead.Seal(key, n, counted(length, 1), counted(3, 2)))
		sealed := aead.Seal(key, n, counted(3, 1), counted(length, 2))
		all.Write(sealed)
		if got, err := aead.Open(key, n, counted(3, 1), sealed); err != api.OK || !bytes.Equal(got, counted(length, 2)) {
			t.Errorf("what is sealed of %d bytes opens to %d, %d", length, len(got), err)
		}
	}
	if got := wire.Hex(all.Sum(nil)); got != "9bdd216c495912811322c9c24a655abd7a6c0b555b29704e4fde8e41fac30e34" {
		t.Errorf("what is sealed of many bytes has the hash %s", got)
	}
}

func TestSealIsAsTheChapterTellsIt(t *testing.T) {
	for _, key := range keys() {
		for _, n := range nonces() {
			for _, ad := range lengths() {
				for _, plain := range lengths() {
					check(t, key, n, some(ad), some(plain), wanted(key, n, some(ad), some(plain)))
				}
				for _, with := range []byte{0, 255} {
					check(t, key, n, filled(ad, with), filled(ad, with), wanted(key, n, filled(ad, with), filled(ad, with)))
				}
			}
		}
	}
}

// What is sealed is as long as the bytes and a mark; its text is they xor the stream from 1 on, whatever the ad is.
func TestTheTextIsXor(t *testing.T) {
	key, n := keyOf(2), nonceOf(2)
	for _, ad := range lengths() {
		for _, plain := range lengths() {
			got := aead.Seal(key, n, some(ad), some(plain))
			if len(got) != plain+api.Mark {
				t.Fatalf("what is sealed of %d bytes has %d", plain, len(got))
			}
			if !bytes.Equal(got[:plain], chacha.Xor(key, 1, n, some(plain))) {
				t.Errorf("%d bytes beside %d: the text is %s", plain, ad, wire.Hex(got[:plain]))
			}
		}
	}
}

func TestSealHangsOnEachBit(t *testing.T) {
	key, n, ad, plain := keyOf(3), nonceOf(3), some(37), some(53)
	first := aead.Seal(key, n, ad, plain)
	c, mark := first[:len(plain)], first[len(plain):]
	another := func(got []byte, what string, bit int) {
		t.Helper()
		if bytes.Equal(got[len(plain):], mark) || len(got) != len(first) {
			t.Errorf("the bit %d of the %s does not count", bit, what)
		}
	}
	for bit := range 8 * len(key) {
		other := key
		other[bit/8] ^= 1 << (bit % 8)
		got := aead.Seal(other, n, ad, plain)
		another(got, "key", bit)
		if bytes.Equal(got[:len(plain)], c) {
			t.Errorf("the text is the same, with the bit %d of the key turned", bit)
		}
	}
	for bit := range 8 * len(n) {
		other := n
		other[bit/8] ^= 1 << (bit % 8)
		got := aead.Seal(key, other, ad, plain)
		another(got, "nonce", bit)
		if bytes.Equal(got[:len(plain)], c) {
			t.Errorf("the text is the same, with the bit %d of the nonce turned", bit)
		}
	}
	for bit := range 8 * len(ad) {
		other := bytes.Clone(ad)
		other[bit/8] ^= 1 << (bit % 8)
		got := aead.Seal(key, n, other, plain)
		another(got, "ad", bit)
		if !bytes.Equal(got[:len(plain)], c) {
			t.Errorf("the text is another one, with the bit %d of the ad turned", bit)
		}
	}
	for bit := range 8 * len(plain) {
		other, want := bytes.Clone(plain), bytes.Clone(c)
		other[bit/8] ^= 1 << (bit % 8)
		want[bit/8] ^= 1 << (bit % 8)
		got := aead.Seal(key, n, ad, other)
		another(got, "bytes", bit)
		if !bytes.Equal(got[:len(plain)], want) {
			t.Errorf("the bit %d of the bytes, turned, does not turn that of the text alone", bit)
		}
	}
}

// Noughts behind an ad are filled up to the same pieces, but its length is told.
func TestNoughtsAreCounted(t *testing.T) {
	key, n, seen := keyOf(4), nonceOf(4), map[string]bool{}
	for length := range 100 {
		seen[string(aead.Seal(key, n, make([]byte, length), []byte("text")))] = true
	}
	if len(seen) != 100 {
		t.Error("100 ads of noughts come to", len(seen), "sealed texts")
	}
}

func TestNonce(t *testing.T) {
	for _, x := range []struct {
		n    uint64
		want string
	}{
		{0, "000000000000000000000000"},
		{1, "000000000100000000000000"},
		{255, "00000000ff00000000000000"},
		{256, "000000000001000000000000"},
		{258, "000000000201000000000000"},
		{0x0102030405060708, "000000000807060504030201"},
		{1<<32 - 1, "00000000ffffffff00000000"},
		{1 << 32, "000000000000000001000000"},
		{1 << 63, "000000000000000000000080"},
		{1<<64 - 2, "00000000feffffffffffffff"},
		{1<<64 - 1, "00000000ffffffffffffffff"},
	} {
		if got := aead.Nonce(x.n); wire.Hex(got[:]) != x.want {
			t.Errorf("Nonce(%d) is %s, not %s", x.n, wire.Hex(got[:]), x.want)
		}
	}
}

// At each byte's end, and anywhere.
func TestNonceOfAnything(t *testing.T) {
	var all []uint64
	for bits := range 64 {
		at := uint64(1) << bits
		all = append(all, at-1, at, at+1, -at, ^at)
	}
	x := rand.New(rand.NewSource(1))
	for range 1000 {
		all = append(all, x.Uint64()>>x.Intn(64))
	}
	for _, number := range all {
		got := aead.Nonce(number)
		if want := binary.LittleEndian.AppendUint64(make([]byte, 4), number); !bytes.Equal(got[:], want) || !bytes.Equal(got[4:], told(number)) {
			t.Errorf("Nonce(%d) is %s, not %s", number, wire.Hex(got[:]), wire.Hex(want))
		}
	}
}
