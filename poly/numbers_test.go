package poly_test

import (
	"math/big"
	"math/rand"
	"testing"

	"escutcheon/api"
	"escutcheon/poly"
	"escutcheon/wire"
)

type mark = [16]byte

const size = 16

var (
	one = big.NewInt(1)
	p   = new(big.Int).Sub(power(130), big.NewInt(5))
)

func power(n uint) *big.Int {
	return new(big.Int).Lsh(one, n)
}

// some is n bytes, no two lists of them with one beginning.
func some(n int) []byte {
	b := make([]byte, n)
	rand.New(rand.NewSource(int64(n))).Read(b)
	return b
}

func ones(n int) []byte {
	b := make([]byte, n)
	for i := range b {
		b[i] = 255
	}
	return b
}

func keyOf(n int) api.Key {
	return api.Key(some(1000 + n)[:32])
}

func keys() []api.Key {
	half := keyOf(3)
	clear(half[:size])
	other := keyOf(4)
	clear(other[size:])
	return []api.Key{{}, api.Key(ones(32)), {0: 1}, {0: 4}, {15: 255}, {31: 128}, half, other, keyOf(1), keyOf(2)}
}

// number is what bytes say, the lowest first.
func number(b []byte) *big.Int {
	n := new(big.Int)
	for i := range b {
		n.Add(n, new(big.Int).Lsh(big.NewInt(int64(b[i])), uint(8*i)))
	}
	return n
}

func bytesOf(n *big.Int, length int) []byte {
	b := make([]byte, length)
	rest := new(big.Int).Set(n)
	for i := range b {
		var last big.Int
		rest.DivMod(rest, big.NewInt(256), &last)
		b[i] = byte(last.Int64())
	}
	return b
}

// isNought says which bits of r are 0, whatever the key says.
func isNought(bit int) bool {
	switch bit / 8 {
	case 3, 7, 11, 15:
		return bit%8 >= 4
	case 4, 8, 12:
		return bit%8 < 2
	}
	return false
}

func multiplier(key api.Key) *big.Int {
	r := number(key[:size])
	for bit := range 8 * size {
		if isNought(bit) {
			r.SetBit(r, bit, 0)
		}
	}
	return r
}

// wanted is the mark as the chapter tells it, step by step.
func wanted(key api.Key, b []byte) mark {
	a, r := new(big.Int), multiplier(key)
	for len(b) > 0 {
		piece := b[:min(size, len(b))]
		b = b[len(piece):]
		a.Add(a, number(append(append([]byte(nil), piece...), 1)))
		a.Mod(a.Mul(a, r), p)
	}
	return mark(bytesOf(a.Add(a, number(key[size:])), size))
}

func ofHex(t *testing.T, text string) []byte {
	t.Helper()
	b, err := wire.OfHex(text)
	if err != api.OK {
		t.Fatal(text)
	}
	return b
}

func check(t *testing.T, key api.Key, b []byte) {
	t.Helper()
	if got, want := poly.Tag(key, b), wanted(key, b); got != want {
		t.Errorf("the key %s: the mark of %s is %s, not %s", wire.Hex(key[:]), wire.Hex(b), wire.Hex(got[:]), wire.Hex(want[:]))
	}
}
