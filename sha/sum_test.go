package sha_test

import (
	"bytes"
	"crypto/sha512"
	"math/rand"
	"slices"
	"strings"
	"testing"

	"escutcheon/api"
	"escutcheon/sha"
	"escutcheon/wire"
)

// some is n bytes, no two lists of them with one beginning.
func some(n int) []byte {
	b := make([]byte, n)
	rand.New(rand.NewSource(int64(n))).Read(b)
	return b
}

func checkSum(t *testing.T, parts ...[]byte) {
	t.Helper()
	all := slices.Concat(parts...)
	if got, want := sha.Sum(parts...), api.Long(sha512.Sum512(all)); got != want {
		t.Errorf("Sum of %d bytes in %d parts is %s, not %s", len(all), len(parts), wire.Hex(got[:]), wire.Hex(want[:]))
	}
}

func TestExampleOfTheChapter(t *testing.T) {
	if got := sha.Sum([]byte("abc")); !bytes.Equal(got[:4], []byte{221, 175, 53, 161}) {
		t.Error("Sum(abc) =", got)
	}
}

// The hashes that FIPS 180-4 and its examples print, and that of no bytes.
func TestKnownHashes(t *testing.T) {
	for message, want := range map[string]string{
		"":    "cf83e1357eefb8bdf1542850d66d8007d620e4050b5715dc83f4a921d36ce9ce47d0d13c5d85f2b0ff8318d2877eec2f63b931bd47417a81a538327af927da3e",
		"abc": "ddaf35a193617abacc417349ae20413112e6fa4e89a97ea20a9eeee64b55d39a2192992a274fc1a836ba3c23a3feebbd454d4423643ce80e2a9ac94fa54ca49f",
		"abcdefghbcdefghicdefghijdefghijkefghijklfghijklmghijklmnhijklmnoijklmnopjklmnopqklmnopqrlmnopqrsmnopqrstnopqrstu": "8e959b75dae313da8cf4f72814fc143f8f7779c6eb9f7fa17299aeadb6889018501d289e4900f7e4331b99dec4b5433ac7d329eeb6dd26545e96e55b874be909",
		strings.Repeat("a", 1000000): "e718483d0ce769644e2e42c7bc15b4638e1f98b13b2044285632a803afa973ebde0ff244877ea60a4cb0432ce577c31beb009c5c2c49aa2e4eadb217ad8cc09b",
	} {
		if got := sha.Sum([]byte(message)); wire.Hex(got[:]) != want {
			t.Errorf("Sum of %d bytes is %s, not %s", len(message), wire.Hex(got[:]), want)
		}
	}
}

func TestAllLengths(t *testing.T) {
	for n := range 700 {
		checkSum(t, some(n))
		checkSum(t, make([]byte, n))
		checkSum(t, bytes.Repeat([]byte{255}, n))
	}
}

// From 112 bytes on, modulo 128, the number of bits has no room in the last block.
func TestLengthsAboutTheEndOfABlock(t *testing.T) {
	for _, blocks := range []int{0, 1, 2, 3, 7, 8, 9, 31, 63, 64, 500, 511, 512} {
		for _, over := range []int{0, 1, 2, 110, 111, 112, 113, 119, 120, 126, 127} {
			b := some(128*blocks + over)
			checkSum(t, b)
			checkSum(t, b[:len(b)/2], b[len(b)/2:])
		}
	}
}

// The number of bits needs its fifth byte, from the end, from 2^29 bytes on.
func TestAMessageOfManyBits(t *testing.T) {
	part := some(1 << 20)
	parts := append(slices.Repeat([][]byte{part}, 1<<9), []byte("and some"))
	other := sha512.New()
	for _, p := range parts {
		other.Write(p)
	}
	if got := sha.Sum(parts...); !bytes.Equal(got[:], other.Sum(nil)) {
		t.Error("Sum of 2^29 bytes and some is", wire.Hex(got[:]))
	}
}

func TestNoParts(t *testing.T) {
	none := api.Long(sha512.Sum512(nil))
	for _, parts := range [][][]byte{nil, {}, {nil}, {{}}, {nil, {}, nil}, make([][]byte, 1000)} {
		if got := sha.Sum(parts...); got != none {
			t.Errorf("Sum of %d parts without a byte is %v", len(parts), got)
		}
	}
	if sha.Sum() != none {
		t.Error("Sum of no parts is", sha.Sum())
	}
}

func TestEmptyPartsAddNothing(t *testing.T) {
	for _, n := range []int{1, 3, 111, 112, 127, 128, 129, 256, 300} {
		b := some(n)
		want := sha.Sum(b)
		for _, parts := range [][][]byte{{nil, b}, {b, nil}, {{}, b, {}}, {b[:n/2], nil, {}, b[n/2:]}, {b[:0], b, b[n:]}} {
			if sha.Sum(parts...) != want {
				t.Errorf("an empty part changes the hash of %d bytes", n)
			}
		}
	}
}

func TestPartsAreCutAnywhere(t *testing.T) {
	for _, n := range []int{1, 2, 111, 112, 127, 128, 129, 239, 240, 255, 256, 257, 400} {
		b := some(n)
		want := api.Long(sha512.Sum512(b))
		for cut := range n + 1 {
			if sha.Sum(b[:cut], b[cut:]) != want {
				t.Errorf("%d bytes, cut at %d, have another hash", n, cut)
			}
			if next := cut + (n-cut)/2; sha.Sum(b[:cut], b[cut:next], b[next:]) != want {
				t.Errorf("%d bytes, cut at %d and %d, have another hash", n, cut, next)
			}
		}
	}
}

func TestManyParts(t *testing.T) {
	b := some(1000)
	for _, size := range []int{1, 2, 3, 64, 111, 112, 113, 127, 128, 129, 255, 256, 257} {
		checkSum(t, slices.Collect(slices.Chunk(b, size))...)
	}
	x := rand.New(rand.NewSource(1))
	for range 300 {
		var parts [][]byte
		for range x.Intn(12) {
			parts = append(parts, some(x.Intn(x.Intn(300)+1)))
		}
		checkSum(t, parts...)
	}
}

// The parts' order, and which bytes they are, is in the hash; where one ends isn't.
func TestThePartsOrder(t *testing.T) {
	a, b := []byte("ab"), []byte("c")
	if sha.Sum(a, b) != sha.Sum([]byte("abc")) || sha.Sum(a, b) != sha.Sum([]byte("a"), []byte("bc")) {
		t.Error("where a part ends is in the hash")
	}
	if sha.Sum(b, a) != sha.Sum([]byte("cab")) || sha.Sum(a, b) == sha.Sum(b, a) {
		t.Error("the parts' order is not in the hash")
	}
}

func TestTheHashHangsOnEachBit(t *testing.T) {
	for _, n := range []int{1, 111, 112, 128, 130} {
		b := some(n)
		seen := map[api.Long]int{sha.Sum(b): -1}
		for bit := range 8 * n {
			b[bit/8] ^= 1 << (bit % 8)
			got := sha.Sum(b)
			if before, is := seen[got]; is {
				t.Errorf("bits %d and %d of %d bytes: turned, the hash is the same", before, bit, n)
			}
			seen[got] = bit
			b[bit/8] ^= 1 << (bit % 8)
		}
	}
}

// A message that ends in what a shorter one is padded with is another one.
func TestPaddingIsNoMessage(t *testing.T) {
	padded := make([]byte, 128)
	copy(padded, "abc\x80")
	padded[127] = 24
	seen := map[api.Long]bool{sha.Sum([]byte("abc")): true}
	for n := 4; n <= 128; n++ {
		seen[sha.Sum(padded[:n])] = true
	}
	for n := range 300 {
		seen[sha.Sum(make([]byte, n))] = true
	}
	if len(seen) != 126+300 {
		t.Error("only", len(seen), "hashes")
	}
}
