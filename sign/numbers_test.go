package sign_test

import (
	"crypto/ed25519"
	"crypto/sha512"
	"math/big"
	"math/rand"
	"slices"
	"testing"

	"escutcheon/api"
	"escutcheon/edwards"
	"escutcheon/sign"
	"escutcheon/wire"
)

// order is L.
var order, _ = new(big.Int).SetString("7237005577332262213973186563042994240857116359379907606001950938285454250989", 10)

// some is n bytes, no two lists of them with one beginning.
func some(n int) []byte {
	b := make([]byte, n)
	rand.New(rand.NewSource(int64(n))).Read(b)
	return b
}

func seedOf(n int64) api.Key {
	var seed api.Key
	rand.New(rand.NewSource(n)).Read(seed[:])
	return seed
}

// seeds are any, and such as are all noughts, all ones, or have one bit.
func seeds() []api.Key {
	all := []api.Key{{}, {1}, {31: 128}}
	for i := range int64(12) {
		all = append(all, seedOf(i))
	}
	ones := api.Key{}
	for i := range ones {
		ones[i] = 255
	}
	return append(all, ones)
}

// key writes a number below 2^256, the lowest byte first.
func key(n *big.Int) api.Key {
	var k api.Key
	n.FillBytes(k[:])
	slices.Reverse(k[:])
	return k
}

// numberOf is what bytes say, the lowest first.
func numberOf(b []byte) *big.Int {
	b = slices.Clone(b)
	slices.Reverse(b)
	return new(big.Int).SetBytes(b)
}

func plus(a, b *big.Int) *big.Int {
	return new(big.Int).Add(a, b)
}

// hashed is the hash of all parts as a number modulo L, as the library has it.
func hashed(parts ...[]byte) *big.Int {
	h := sha512.Sum512(slices.Concat(parts...))
	return new(big.Int).Mod(numberOf(h[:]), order)
}

func joined(r, s api.Key) api.Long {
	return api.Long(slices.Concat(r[:], s[:]))
}

func parted(sig api.Long) (r, s api.Key) {
	return api.Key(sig[:32]), api.Key(sig[32:])
}

func turned(b []byte, bit int) {
	b[bit/8] ^= 1 << (bit % 8)
}

func ofHex(t *testing.T, text string) []byte {
	t.Helper()
	b, err := wire.OfHex(text)
	if err != api.OK {
		t.Fatal(text)
	}
	return b
}

// library is what Go's own Ed25519 says. It takes numbers from p on for heights too, so that it is asked only of publics that are some point's bytes.
func library(public api.Key, sig api.Long, message []byte) api.Errno {
	if ed25519.Verify(public[:], message, sig[:]) {
		return api.OK
	}
	return api.ErrAuth
}

func checks(t *testing.T, want api.Errno, public api.Key, sig api.Long, message []byte, what string) {
	t.Helper()
	if got := sign.Check(public, sig, message); got != want {
		t.Errorf("%s: Check is %d, not %d: the public %s, the signature %s, %d bytes", what, got, want, wire.Hex(public[:]), wire.Hex(sig[:]), len(message))
	}
}

// few are the points whose eightfold is nought, and how often each is added up till it is nought.
func few(t *testing.T) ([]api.Key, []int64) {
	t.Helper()
	texts := []string{
		"0100000000000000000000000000000000000000000000000000000000000000",
		"ecffffffffffffffffffffffffffffffffffffffffffffffffffffffffffff7f",
		"0000000000000000000000000000000000000000000000000000000000000000",
		"0000000000000000000000000000000000000000000000000000000000000080",
		"26e8958fc2b227b045c3f489f2ef98f0d5dfac05d3c63339b13802886d53fc05",
		"26e8958fc2b227b045c3f489f2ef98f0d5dfac05d3c63339b13802886d53fc85",
		"c7176a703d4dd84fba3c0b760d10670f2a2053fa2c39ccc64ec7fd7792ac037a",
		"c7176a703d4dd84fba3c0b760d10670f2a2053fa2c39ccc64ec7fd7792ac03fa",
	}
	orders := []int64{1, 2, 4, 4, 8, 8, 8, 8}
	var points []api.Key
	for i, text := range texts {
		b := api.Key(ofHex(t, text))
		for n := int64(1); n <= orders[i]; n++ {
			if none := pointOf(t, b).Mul(api.Key{byte(n)}).Bytes() == (api.Key{1}); none != (n == orders[i]) {
				t.Fatalf("%s is not of the order %d", text, orders[i])
			}
		}
		points = append(points, b)
	}
	return points, orders
}

func pointOf(t *testing.T, b api.Key) edwards.Point {
	t.Helper()
	p, ok := edwards.Of(b)
	if !ok {
		t.Fatalf("%s: no point's bytes", wire.Hex(b[:]))
	}
	return p
}
