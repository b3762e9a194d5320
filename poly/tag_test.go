package poly_test

import (
	"bytes"
	"math/big"
	"math/rand"
	"strings"
	"testing"

	"escutcheon/api"
	"escutcheon/poly"
	"escutcheon/wire"
)

func TestExampleOfTheChapter(t *testing.T) {
	for _, s := range [][]byte{make([]byte, size), ones(size), some(size)} {
		key := api.Key(append(make([]byte, size), s...))
		for _, b := range [][]byte{nil, {0}, {1}, some(15), some(16), some(17), some(500), ones(48)} {
			if got := poly.Tag(key, b); !bytes.Equal(got[:], s) {
				t.Errorf("the key %s: the mark of %s is %s", wire.Hex(key[:]), wire.Hex(b), wire.Hex(got[:]))
			}
		}
	}
}

const (
	noughts     = "00000000000000000000000000000000"
	contributed = `Any submission to the IETF intended by the Contributor for publication as all or part of an IETF Internet-Draft or RFC and any statement made within the context of an IETF activity is considered an "IETF Contribution". Such statements include oral statements in IETF sessions, as well as written and electronic communications made at any time or place, which are addressed to`
)

// The marks that RFC 8439 prints.
func TestKnownMarks(t *testing.T) {
	text := func(s string) string { return wire.Hex([]byte(s)) }
	const full = "ffffffffffffffffffffffffffffffff"
	for _, x := range []struct{ key, bytes, mark string }{
		{"85d6be7857556d337f4452fe42d506a80103808afb0db2fd4abff6af4149f51b", text("Cryptographic Forum Research Group"), "a8061dc1305136c6c22b8baf0c0127a9"},
		{noughts + noughts, strings.Repeat(noughts, 4), noughts},
		{noughts + "36e5f6b5c5e06070f0efca96227a863e", text(contributed), "36e5f6b5c5e06070f0efca96227a863e"},
		{"36e5f6b5c5e06070f0efca96227a863e" + noughts, text(contributed), "f3477e7cd95417af89a6b8794c310cf0"},
		{"1c9240a5eb55d38af333888604f6b5f0473917c1402b80099dca5cbc207075c0", text("'Twas brillig, and the slithy toves\nDid gyre and gimble in the wabe:\nAll mimsy were the borogoves,\nAnd the mome raths outgrabe."), "4541669a7eaaee61e708dc7cbcc5eb62"},
		{"02000000000000000000000000000000" + noughts, full, "03000000000000000000000000000000"},
		{"02000000000000000000000000000000" + full, "02000000000000000000000000000000", "03000000000000000000000000000000"},
		{"01000000000000000000000000000000" + noughts, full + "f0ffffffffffffffffffffffffffffff" + "11000000000000000000000000000000", "05000000000000000000000000000000"},
		{"01000000000000000000000000000000" + noughts, full + "fbfefefefefefefefefefefefefefefe" + "01010101010101010101010101010101", noughts},
		{"02000000000000000000000000000000" + noughts, "fdffffffffffffffffffffffffffffff", "faffffffffffffffffffffffffffffff"},
		{"01000000000000000400000000000000" + noughts, "e33594d7505e43b900000000000000003394d7505e4379cd01000000000000000000000000000000000000000000000001000000000000000000000000000000", "14000000000000005500000000000000"},
		{"01000000000000000400000000000000" + noughts, "e33594d7505e43b900000000000000003394d7505e4379cd010000000000000000000000000000000000000000000000", "13000000000000000000000000000000"},
	} {
		got := poly.Tag(api.Key(ofHex(t, x.key)), ofHex(t, x.bytes))
		if wire.Hex(got[:]) != x.mark {
			t.Errorf("the key %s: the mark of %s is %s, not %s", x.key, x.bytes, wire.Hex(got[:]), x.mark)
		}
	}
}

func TestAllLengths(t *testing.T) {
	for _, key := range keys() {
		for length := range 8*size + 2 {
			check(t, key, some(length))
			check(t, key, make([]byte, length))
			check(t, key, ones(length))
		}
	}
}

// No two of so many noughts have one mark: the byte 1 behind a piece tells how many it had.
func TestNoughtsAreCounted(t *testing.T) {
	key := keyOf(5)
	seen := map[mark]bool{}
	for length := range 200 {
		seen[poly.Tag(key, make([]byte, length))] = true
	}
	if len(seen) != 200 {
		t.Error("200 texts of noughts have", len(seen), "marks")
	}
}

// The mark of no bytes is s.
func TestNoBytes(t *testing.T) {
	for _, key := range keys() {
		for i, parts := range [][][]byte{nil, {}, {nil}, {{}}, {nil, {}, nil}, {some(9)[9:], make([]byte, 0, 20)}} {
			if got := poly.Tag(key, parts...); !bytes.Equal(got[:], key[size:]) {
				t.Errorf("the key %s: the mark of no bytes (%d) is %s", wire.Hex(key[:]), i, wire.Hex(got[:]))
			}
		}
	}
}

// If r is 0, the mark of any bytes is s: also where the key's bits say more, but at r's noughts alone.
func TestMarksWithoutR(t *testing.T) {
	for i := range 3 * size {
		var key api.Key
		for bit := range 8 * size {
			if isNought(bit) && (i == 0 || (bit*i)%3 == 0) {
				key[bit/8] |= 1 << (bit % 8)
			}
		}
		copy(key[size:], some(size + i)[i:])
		for _, length := range []int{0, 1, 15, 16, 17, 31, 32, 33, 400} {
			for _, b := range [][]byte{some(length), make([]byte, length), ones(length)} {
				if got := poly.Tag(key, b); !bytes.Equal(got[:], key[size:]) {
					t.Errorf("the key %s: the mark of %d bytes is %s", wire.Hex(key[:]), length, wire.Hex(got[:]))
				}
			}
		}
	}
}

func TestTagHangsOnEachBit(t *testing.T) {
	b := some(53)
	for _, key := range []api.Key{{}, api.Key(ones(32)), keyOf(6)} {
		first := poly.Tag(key, b)
		for bit := range 256 {
			other := key
			other[bit/8] ^= 1 << (bit % 8)
			check(t, other, b)
			if same := poly.Tag(other, b) == first; same != (bit < 8*size && isNought(bit)) {
				t.Errorf("the key %s: the bit %d turned, is the mark the same? %t", wire.Hex(key[:]), bit, same)
			}
		}
	}
	key := keyOf(7)
	first := poly.Tag(key, b)
	for bit := range 8 * len(b) {
		other := bytes.Clone(b)
		other[bit/8] ^= 1 << (bit % 8)
		check(t, key, other)
		if poly.Tag(key, other) == first {
			t.Errorf("the bit %d of the bytes does not count", bit)
		}
	}
}

func TestTagOfAnything(t *testing.T) {
	x := rand.New(rand.NewSource(1))
	for range 5000 {
		var key api.Key
		x.Read(key[:])
		b := make([]byte, x.Intn(200))
		x.Read(b)
		check(t, key, b)
	}
}

// Words that are all noughts or all ones carry furthest.
func TestTagOfNoughtsAndOnes(t *testing.T) {
	x := rand.New(rand.NewSource(2))
	edge := func(b []byte) {
		word := byte(0)
		for i := range b {
			if i%4 == 0 || x.Intn(12) == 0 {
				word = []byte{0, 255, 255, 1, 128, 254}[x.Intn(6)]
			}
			b[i] = word
		}
	}
	for range 5000 {
		var key api.Key
		edge(key[:])
		b := make([]byte, x.Intn(100))
		edge(b)
		check(t, key, b)
	}
}

func TestManyBytes(t *testing.T) {
	const length = 1<<20 + 7
	for _, key := range []api.Key{keyOf(8), api.Key(ones(32))} {
		check(t, key, some(length))
		check(t, key, ones(length))
		check(t, key, make([]byte, length))
	}
}

// sums are numbers that a can be short of 2^130 - 5, its multiples and powers of 2, or above.
func sums() []*big.Int {
	var all []*big.Int
	for _, about := range []*big.Int{power(128), power(129), new(big.Int).Sub(power(130), power(64)), p, power(130), new(big.Int).Mul(p, big.NewInt(2)), power(131), new(big.Int).Mul(p, big.NewInt(3))} {
		for k := int64(-20); k <= 20; k++ {
			all = append(all, new(big.Int).Add(about, big.NewInt(k)))
		}
	}
	return all
}

// piecesOf is bytes whose pieces, each with its byte 1, add up to a number (false, if no bytes of 16 do).
func piecesOf(sum *big.Int) ([]byte, bool) {
	var b []byte
	rest := new(big.Int).Set(sum)
	most := new(big.Int).Sub(power(129), one)
	for rest.Sign() > 0 {
		piece := new(big.Int).Set(rest)
		if piece.Cmp(most) > 0 {
			piece.Sub(piece, power(128))
			if piece.Cmp(most) > 0 {
				piece.Set(most)
			}
		}
		rest.Sub(rest, piece)
		if piece.Sub(piece, power(128)).Sign() < 0 {
			return nil, false
		}
		b = append(b, bytesOf(piece, size)...)
	}
	return b, true
}

// With an r of 1, a is what the pieces come to.
func TestSumsAboutThePrime(t *testing.T) {
	tried := 0
	for _, sum := range sums() {
		b, ok := piecesOf(sum)
		if !ok {
			continue
		}
		tried++
		for _, s := range [][]byte{make([]byte, size), ones(size), some(size)} {
			key := api.Key(append(bytesOf(one, size), s...))
			left := new(big.Int).Mod(sum, p)
			if got, want := poly.Tag(key, b), bytesOf(left.Add(left, number(s)), size); !bytes.Equal(got[:], want) {
				t.Errorf("pieces that come to %v: the mark is %s, not %s", sum, wire.Hex(got[:]), wire.Hex(want))
			}
			check(t, key, b)
			for bit := range 8 * size {
				if !isNought(bit) {
					check(t, api.Key(append(bytesOf(power(uint(bit)), size), s...)), b)
				}
			}
		}
	}
	if tried < 250 {
		t.Error("no more than", tried, "sums")
	}
}

// leading is bytes that a key of some r leads to a number below p; there is such a key for about each fourth r.
func leading(x *rand.Rand, left *big.Int) (api.Key, []byte) {
	for {
		var key api.Key
		x.Read(key[:size])
		r := multiplier(key)
		first := make([]byte, size*x.Intn(3))
		x.Read(first)
		a := number(nil)
		for at := 0; at < len(first); at += size {
			a.Add(a, number(append(bytes.Clone(first[at:at+size]), 1)))
			a.Mod(a.Mul(a, r), p)
		}
		piece := new(big.Int).Mul(left, new(big.Int).ModInverse(r, p))
		piece.Mod(piece.Sub(piece, a), p)
		if piece.BitLen() == 129 {
			return key, append(first, bytesOf(piece, size)...)
		}
	}
}

// Whatever r is: numbers that are just below 2^130 - 5, and small ones, which products come to from above.
func TestProductsAboutThePrime(t *testing.T) {
	x := rand.New(rand.NewSource(3))
	for _, left := range append(sums(), big.NewInt(0), big.NewInt(1), big.NewInt(2), big.NewInt(3), big.NewInt(4), big.NewInt(5), power(64), power(127)) {
		left.Mod(left, p)
		for range 10 {
			key, b := leading(x, left)
			for _, s := range [][]byte{make([]byte, size), ones(size), bytesOf(one, size), some(size)} {
				copy(key[size:], s)
				want := bytesOf(new(big.Int).Add(left, number(s)), size)
				if got := poly.Tag(key, b); !bytes.Equal(got[:], want) {
					t.Errorf("the key %s: the mark of %s is %s, not %s", wire.Hex(key[:]), wire.Hex(b), wire.Hex(got[:]), wire.Hex(want))
				}
			}
		}
	}
}
