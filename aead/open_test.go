package aead_test

import (
	"bytes"
	"math/rand"
	"slices"
	"testing"

	"escutcheon/aead"
	"escutcheon/api"
	"escutcheon/chacha"
	"escutcheon/poly"
	"escutcheon/wire"
)

// Fewer than 16 bytes, whatever they are: also those that a right mark begins, or ends, with.
func TestExampleOfTheChapter(t *testing.T) {
	key, n := keyOf(5), nonceOf(5)
	mark := aead.Seal(key, n, nil, nil)
	for length := range size {
		for _, b := range [][]byte{make([]byte, length), filled(length, 255), some(length), mark[:length], mark[size-length:]} {
			refused(t, key, n, nil, b, "fewer than 16 bytes")
			refused(t, key, n, some(20), b, "fewer than 16 bytes")
			refused(t, api.Key{}, nonce{}, nil, b, "fewer than 16 bytes")
		}
	}
	refused(t, key, n, nil, nil, "no bytes")
	check(t, key, n, nil, nil, mark)
}

func TestOpenOfSeal(t *testing.T) {
	x := rand.New(rand.NewSource(2))
	for range 2000 {
		var key api.Key
		var n nonce
		x.Read(key[:])
		x.Read(n[:])
		ad, plain := some(x.Intn(100)), some(x.Intn(300))
		check(t, key, n, ad, plain, aead.Seal(key, n, ad, plain))
	}
}

// Any text that has its mark is opened, and is what Seal of what comes of it is.
func TestWhatIsOpenedIsSealed(t *testing.T) {
	x := rand.New(rand.NewSource(3))
	for range 2000 {
		var key api.Key
		var n nonce
		x.Read(key[:])
		x.Read(n[:])
		ad, c := some(x.Intn(100)), some(x.Intn(300))
		sealed := append(c, markOf(key, n, ad, c)...)
		plain, err := aead.Open(key, n, ad, sealed)
		if err != api.OK {
			t.Errorf("%s beside the ad %s has its mark, and is %d", wire.Hex(sealed), wire.Hex(ad), err)
		}
		if again := aead.Seal(key, n, ad, plain); !bytes.Equal(again, sealed) {
			t.Errorf("%s is opened to %s, which is sealed to %s", wire.Hex(sealed), wire.Hex(plain), wire.Hex(again))
		}
	}
}

func TestAnyBytesStayShut(t *testing.T) {
	x := rand.New(rand.NewSource(4))
	for range 2000 {
		key, n := keys()[x.Intn(len(keys()))], nonces()[x.Intn(len(nonces()))]
		b := make([]byte, x.Intn(100))
		x.Read(b)
		refused(t, key, n, some(x.Intn(40)), b, "any bytes")
		refused(t, key, n, nil, make([]byte, len(b)), "noughts")
		refused(t, key, n, nil, filled(len(b), 255), "ones")
	}
}

// One bit alone is another one: of the text, the mark, the ad, the key or the nonce.
func TestOneBit(t *testing.T) {
	for _, ad := range []int{0, 1, 16, 19} {
		for _, plain := range []int{0, 1, 15, 16, 17, 70} {
			key, n := keyOf(ad), nonceOf(plain)
			sealed := aead.Seal(key, n, some(ad), some(plain))
			for bit := range 8 * len(sealed) {
				other := bytes.Clone(sealed)
				other[bit/8] ^= 1 << (bit % 8)
				refused(t, key, n, some(ad), other, "a bit of what is sealed")
			}
			for bit := range 8 * ad {
				other := some(ad)
				other[bit/8] ^= 1 << (bit % 8)
				refused(t, key, n, other, sealed, "a bit of the ad")
			}
			for bit := range 8 * len(key) {
				other := key
				other[bit/8] ^= 1 << (bit % 8)
				refused(t, other, n, some(ad), sealed, "a bit of the key")
			}
			for bit := range 8 * len(n) {
				other := n
				other[bit/8] ^= 1 << (bit % 8)
				refused(t, key, other, some(ad), sealed, "a bit of the nonce")
			}
		}
	}
}

// Where the ad ends and the text begins is sealed too: also where both are noughts, or fill pieces.
func TestBytesThatAreMoved(t *testing.T) {
	key, n := keyOf(6), nonceOf(6)
	for _, c := range [][]byte{some(64), make([]byte, 64), some(53), make([]byte, 7)} {
		for cut := range len(c) + 1 {
			mark := markOf(key, n, c[:cut], c[cut:])
			for other := range len(c) + 1 {
				sealed := append(bytes.Clone(c[other:]), mark...)
				if other != cut {
					refused(t, key, n, c[:other], sealed, "bytes moved")
				} else if _, err := aead.Open(key, n, c[:other], sealed); err != api.OK {
					t.Errorf("%d bytes behind an ad of %d: %d", len(c)-cut, cut, err)
				}
			}
		}
	}
}

func TestCutShort(t *testing.T) {
	key, n := keyOf(7), nonceOf(7)
	for _, length := range []int{0, 1, 15, 16, 17, 32, 64, 80} {
		ad, plain := some(21), some(length)
		sealed := aead.Seal(key, n, ad, plain)
		for at := range len(sealed) {
			refused(t, key, n, ad, sealed[:at], "cut short")
			refused(t, key, n, ad, sealed[at+1:], "cut at the front")
			refused(t, key, n, ad, slices.Delete(bytes.Clone(sealed), at, at+1), "a byte less")
		}
		for at := range length {
			refused(t, key, n, ad, slices.Concat(sealed[:at], sealed[length:]), "a text cut short, with its mark")
		}
		for at := range len(ad) {
			refused(t, key, n, ad[:at], sealed, "an ad cut short")
			refused(t, key, n, ad[at+1:], sealed, "an ad cut at the front")
		}
	}
}

// Longer ones: bytes, noughts as a piece is filled up with, or all of it twice.
func TestLonger(t *testing.T) {
	key, n := keyOf(8), nonceOf(8)
	for _, length := range []int{0, 1, 15, 16, 17, 63, 64, 65} {
		ad, plain := some(length), make([]byte, length)
		sealed := aead.Seal(key, n, ad, plain)
		c, mark := sealed[:length], sealed[length:]
		for more := 1; more <= 3*size; more++ {
			for _, b := range [][]byte{make([]byte, more), filled(more, 255), some(more)} {
				refused(t, key, n, ad, slices.Concat(sealed, b), "longer")
				refused(t, key, n, ad, slices.Concat(b, sealed), "longer at the front")
				refused(t, key, n, ad, slices.Concat(c, b, mark), "a longer text")
				refused(t, key, n, slices.Concat(ad, b), sealed, "a longer ad")
				refused(t, key, n, slices.Concat(b, ad), sealed, "an ad that is longer at the front")
			}
		}
		for x := range 256 {
			refused(t, key, n, ad, append(bytes.Clone(sealed), byte(x)), "a byte more")
		}
		refused(t, key, n, ad, slices.Concat(sealed, sealed), "twice")
		refused(t, key, n, ad, slices.Concat(sealed, mark), "two marks")
	}
}

// falseMarks are such as a mark would be if something of the chapter were taken in another way.
func falseMarks(key api.Key, n nonce, ad, c []byte) map[string][16]byte {
	k := markKey(key, n)
	high := func(n int) []byte {
		b := told(uint64(n))
		slices.Reverse(b)
		return b
	}
	a, b, adLength, length := padded(ad), padded(c), told(uint64(len(ad))), told(uint64(len(c)))
	first, second := chacha.Block(key, 0, n), chacha.Block(key, 1, n)
	plain := chacha.Xor(key, 1, n, c)
	return map[string][16]byte{
		"no ad":                     poly.Tag(k, b, adLength, length),
		"no text":                   poly.Tag(k, a, adLength, length),
		"no lengths":                poly.Tag(k, a, b),
		"one length":                poly.Tag(k, a, b, adLength),
		"the ad not padded":         poly.Tag(k, ad, b, adLength, length),
		"the text not padded":       poly.Tag(k, a, c, adLength, length),
		"neither padded":            poly.Tag(k, ad, c, adLength, length),
		"a piece more":              poly.Tag(k, a, make([]byte, size), b, adLength, length),
		"the text first":            poly.Tag(k, b, a, adLength, length),
		"the lengths swapped":       poly.Tag(k, a, b, length, adLength),
		"the lengths first":         poly.Tag(k, adLength, length, a, b),
		"the highest byte first":    poly.Tag(k, a, b, high(len(ad)), high(len(c))),
		"lengths in bits":           poly.Tag(k, a, b, told(uint64(8*len(ad))), told(uint64(8*len(c)))),
		"lengths of what is padded": poly.Tag(k, a, b, told(uint64(len(a))), told(uint64(len(b)))),
		"lengths of four bytes":     poly.Tag(k, a, b, adLength[:4], length[:4]),
		"the bytes' own":            poly.Tag(k, a, padded(plain), adLength, length),
		"the key itself":            poly.Tag(key, a, b, adLength, length),
		"the block's other half":    poly.Tag(api.Key(first[32:]), a, b, adLength, length),
		"the block of 1":            poly.Tag(api.Key(second[:32]), a, b, adLength, length),
	}
}

func TestOtherMarks(t *testing.T) {
	key, n := keyOf(9), nonceOf(9)
	for _, ad := range []int{3, 17, 33} {
		for _, length := range []int{5, 18, 70} {
			c := some(length)
			right := markOf(key, n, some(ad), c)
			for what, mark := range falseMarks(key, n, some(ad), c) {
				refused(t, key, n, some(ad), slices.Concat(c, mark[:]), what)
			}
			turned := bytes.Clone(right)
			slices.Reverse(turned)
			refused(t, key, n, some(ad), slices.Concat(c, turned), "the mark turned round")
			refused(t, key, n, some(ad), slices.Concat(right, c), "the mark in front")
			check(t, key, n, some(ad), chacha.Xor(key, 1, n, c), slices.Concat(c, right))
		}
	}
}

// The mark of one text, ad, key or nonce is none of another's.
func TestMarksOfOthers(t *testing.T) {
	key, n, ad := keyOf(10), nonceOf(10), some(9)
	one, two := aead.Seal(key, n, ad, some(40)), aead.Seal(key, n, ad, some(41)[:40])
	refused(t, key, n, ad, slices.Concat(one[:40], two[40:]), "the other text's mark")
	refused(t, key, n, ad, slices.Concat(two[:40], one[40:]), "the other text's mark")
	refused(t, key, n, ad, slices.Concat(one[:20], two[20:]), "half a text")
	refused(t, key, n, one, ad, "ad and text swapped")
	for i := range 100 {
		refused(t, key, aead.Nonce(uint64(i)), ad, aead.Seal(key, aead.Nonce(uint64(i+1)), ad, some(i)), "the next nonce")
		refused(t, keyOf(i+11), n, ad, aead.Seal(keyOf(i+12), n, ad, some(i)), "another key")
	}
}
