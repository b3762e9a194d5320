package hkdf_test

import (
	"bytes"
	"crypto/hmac"
	"hash"
	"math/rand"
	"slices"
	"testing"

	"escutcheon/api"
	"escutcheon/blake"
	"escutcheon/hkdf"
	"escutcheon/wire"
)

const size = 64 // bytes of a key that is filled up

// some is n bytes, no two lists of them with one beginning.
func some(n int) []byte {
	b := make([]byte, n)
	rand.New(rand.NewSource(int64(n))).Read(b)
	return b
}

// counted is n bytes, each one more than the one ahead of it.
func counted(n, from int) []byte {
	b := make([]byte, n)
	for i := range b {
		b[i] = byte(from + i)
	}
	return b
}

func filled(n int, with byte) []byte {
	return bytes.Repeat([]byte{with}, n)
}

func keyOf(n int) api.Key {
	return api.Key(some(1000 + n)[:32])
}

func secrets() []api.Key {
	half := keyOf(3)
	clear(half[16:])
	return []api.Key{{}, api.Key(filled(32, 255)), {0: 1}, {31: 1}, api.Key(filled(32, 54)), api.Key(filled(32, 92)), half, keyOf(1), keyOf(2)}
}

// lengths are those about a block's end, of keys and of bytes.
func lengths() []int {
	return []int{0, 1, 2, 31, 32, 33, 62, 63, 64, 65, 66, 127, 128, 129, 192, 200}
}

// wanted is the mac as the chapter tells it, step by step.
func wanted(key, b []byte) api.Key {
	if len(key) > size {
		h := blake.Sum(key)
		key = h[:]
	}
	var first, second []byte
	for i := range size {
		var x byte
		if i < len(key) {
			x = key[i]
		}
		first, second = append(first, x^92), append(second, x^54)
	}
	h := blake.Sum(slices.Concat(second, b))
	return blake.Sum(slices.Concat(first, h[:]))
}

// hasher lets the library's own macs go by layer 11's hash.
type hasher struct {
	taken []byte
}

func newHasher() hash.Hash {
	return &hasher{}
}

func (h *hasher) Write(b []byte) (int, error) {
	h.taken = append(h.taken, b...)
	return len(b), nil
}

func (h *hasher) Sum(ahead []byte) []byte {
	k := blake.Sum(h.taken)
	return append(ahead, k[:]...)
}

func (h *hasher) Reset()         { h.taken = nil }
func (h *hasher) Size() int      { return len(api.Key{}) }
func (h *hasher) BlockSize() int { return size }

func librarys(key, b []byte) api.Key {
	m := hmac.New(newHasher, key)
	m.Write(b)
	return api.Key(m.Sum(nil))
}

func ofHex(t *testing.T, text string) []byte {
	t.Helper()
	b, err := wire.OfHex(text)
	if err != api.OK {
		t.Fatal(text)
	}
	return b
}

func told(k api.Key) string {
	return wire.Hex(k[:])
}

func check(t *testing.T, key []byte, parts ...[]byte) {
	t.Helper()
	all := slices.Concat(parts...)
	if got, want := hkdf.Mac(key, parts...), wanted(key, all); got != want {
		t.Errorf("a key of %d bytes: the mac of %d bytes in %d parts is %s, not %s", len(key), len(all), len(parts), told(got), told(want))
	}
}
