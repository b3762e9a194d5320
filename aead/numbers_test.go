package aead_test

import (
	"bytes"
	"math/rand"
	"slices"
	"testing"

	"escutcheon/aead"
	"escutcheon/api"
	"escutcheon/chacha"
	"escutcheon/poly"
	"escutcheon/wire"
)

type nonce = [12]byte

const size = 16 // bytes of a piece, and of a mark

// some is n bytes, no two lists of them with one beginning.
func some(n int) []byte {
	b := make([]byte, n)
	rand.New(rand.NewSource(int64(n))).Read(b)
	return b
}

// counted is n bytes, each one more than the one ahead of it.
func counted(n, from int) []byte {
	b := make([]byte, n)
	for i := range b {
		b[i] = byte(from + i)
	}
	return b
}

func filled(n int, with byte) []byte {
	return bytes.Repeat([]byte{with}, n)
}

func keyOf(n int) api.Key {
	return api.Key(some(1000 + n)[:32])
}

func nonceOf(n int) nonce {
	return nonce(some(2000 + n)[:12])
}

func keys() []api.Key {
	return []api.Key{{}, api.Key(filled(32, 255)), {0: 1}, {31: 128}, keyOf(1)}
}

func nonces() []nonce {
	return []nonce{{}, nonce(filled(12, 255)), {0: 1}, {11: 128}, nonceOf(1)}
}

// lengths are those about the ends of pieces and of blocks.
func lengths() []int {
	return []int{0, 1, 2, 15, 16, 17, 31, 32, 33, 47, 48, 49, 63, 64, 65, 80, 127, 128, 129, 255, 256, 257, 300}
}

func padded(b []byte) []byte {
	b = bytes.Clone(b)
	for len(b)%size != 0 {
		b = append(b, 0)
	}
	return b
}

// told is a number as 8 bytes, the lowest first.
func told(n uint64) []byte {
	var b []byte
	for range 8 {
		b = append(b, byte(n%256))
		n /= 256
	}
	return b
}

func markKey(key api.Key, n nonce) api.Key {
	block := chacha.Block(key, 0, n)
	return api.Key(block[:32])
}

// markOf is the mark as the chapter tells it, of one list of bytes.
func markOf(key api.Key, n nonce, ad, c []byte) []byte {
	whole := slices.Concat(padded(ad), padded(c), told(uint64(len(ad))), told(uint64(len(c))))
	mark := poly.Tag(markKey(key, n), whole)
	return mark[:]
}

// wanted is what is sealed as the chapter tells it, block by block.
func wanted(key api.Key, n nonce, ad, plain []byte) []byte {
	c := bytes.Clone(plain)
	for i := range c {
		block := chacha.Block(key, uint32(1+i/64), n)
		c[i] ^= block[i%64]
	}
	return append(c, markOf(key, n, ad, c)...)
}

func ofHex(t *testing.T, text string) []byte {
	t.Helper()
	b, err := wire.OfHex(text)
	if err != api.OK {
		t.Fatal(text)
	}
	return b
}

// check holds both Seal and Open against what is sealed.
func check(t *testing.T, key api.Key, n nonce, ad, plain, sealed []byte) {
	t.Helper()
	if got := aead.Seal(key, n, ad, plain); !bytes.Equal(got, sealed) {
		t.Errorf("the key %s, the nonce %s, the ad %s: Seal of %s is %s, not %s", wire.Hex(key[:]), wire.Hex(n[:]), wire.Hex(ad), wire.Hex(plain), wire.Hex(got), wire.Hex(sealed))
	}
	if got, err := aead.Open(key, n, ad, sealed); err != api.OK || !bytes.Equal(got, plain) {
		t.Errorf("the key %s, the nonce %s, the ad %s: Open of %s is %s, %d, not %s", wire.Hex(key[:]), wire.Hex(n[:]), wire.Hex(ad), wire.Hex(sealed), wire.Hex(got), err, wire.Hex(plain))
	}
}

func refused(t *testing.T, key api.Key, n nonce, ad, sealed []byte, what string) {
	t.Helper()
	if got, err := aead.Open(key, n, ad, sealed); err != api.ErrAuth || got != nil {
		t.Errorf("%s: Open of %s beside the ad %s is %s, %d", what, wire.Hex(sealed), wire.Hex(ad), wire.Hex(got), err)
	}
}
