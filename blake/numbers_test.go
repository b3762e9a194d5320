package blake_test

import (
	"bytes"
	"math/big"
	"math/rand"
	"slices"
	"strconv"
	"strings"
	"testing"

	"escutcheon/api"
	"escutcheon/blake"
	"escutcheon/wire"
)

const (
	size = 64 // bytes of a block
	full = 1 << 32
)

// The orders as the chapter prints them, a line each.
const printed = `0 1 2 3 4 5 6 7 8 9 10 11 12 13 14 15
14 10 4 8 9 15 13 6 1 12 0 2 11 7 5 3
11 8 12 0 5 2 15 13 10 14 3 6 7 1 9 4
7 9 3 1 13 12 11 14 2 6 5 10 4 0 15 8
9 0 5 7 2 4 10 15 14 1 11 12 6 8 3 13
2 12 6 10 0 11 8 3 4 13 7 5 15 14 1 9
12 5 1 15 14 13 4 10 0 7 6 3 9 2 8 11
13 11 7 14 12 1 3 9 5 0 15 4 8 6 2 10
6 15 14 9 11 3 0 8 12 2 13 7 1 4 10 5
10 2 8 4 7 6 1 5 15 11 9 14 3 12 13 0`

// The mixes of a round as the chapter prints them.
const mixes = "0 4 8 12, 1 5 9 13, 2 6 10 14, 3 7 11 15, 0 5 10 15, 1 6 11 12, 2 7 8 13, 3 4 9 14"

// some is n bytes, no two lists of them with one beginning.
func some(n int) []byte {
	b := make([]byte, n)
	rand.New(rand.NewSource(int64(n))).Read(b)
	return b
}

// counted is n bytes, each one more than the one ahead of it.
func counted(n, from int) []byte {
	b := make([]byte, n)
	for i := range b {
		b[i] = byte(from + i)
	}
	return b
}

func filled(n int, with byte) []byte {
	return bytes.Repeat([]byte{with}, n)
}

func numbersOf(text string) []int {
	var all []int
	for word := range strings.FieldsSeq(text) {
		n, _ := strconv.Atoi(word)
		all = append(all, n)
	}
	return all
}

func printedOrders() [][]int {
	var all [][]int
	for line := range strings.Lines(printed) {
		all = append(all, numbersOf(line))
	}
	return all
}

func printedMixes() [][]int {
	var all [][]int
	for four := range strings.SplitSeq(mixes, ",") {
		all = append(all, numbersOf(four))
	}
	return all
}

// roots are the first 32 bits behind the point of the square roots of the first eight primes.
func roots() []uint64 {
	var all []uint64
	for n := int64(2); len(all) < 8; n++ {
		if p := big.NewInt(n); p.ProbablyPrime(10) {
			root := new(big.Int).Sqrt(p.Lsh(p, 64))
			all = append(all, root.Uint64()%full)
		}
	}
	return all
}

// reference works a hash out as the chapter tells it, with numbers that are divided by 2^32.
type reference struct {
	orders, mixes [][]int
	start         []uint64
}

func newReference() reference {
	return reference{printedOrders(), printedMixes(), roots()}
}

func turnedRight(x uint64, n int) uint64 {
	low := x % (1 << n)
	return x>>n + low<<(32-n)
}

func (r reference) pressed(h []uint64, block []byte, t uint64, last bool) []uint64 {
	var words []uint64
	for four := range slices.Chunk(block, 4) {
		words = append(words, uint64(four[0])+256*uint64(four[1])+65536*uint64(four[2])+16777216*uint64(four[3]))
	}
	v := slices.Concat(h, r.start)
	v[12] ^= t % full
	v[13] ^= t / full
	if last {
		v[14] = full - 1 - v[14]
	}
	for _, o := range r.orders {
		for i, at := range r.mixes {
			mixed(v, at, words[o[2*i]], words[o[2*i+1]])
		}
	}
	next := slices.Clone(h)
	for i := range next {
		next[i] ^= v[i] ^ v[i+8]
	}
	return next
}

func mixed(v []uint64, at []int, x, y uint64) {
	a, b, c, d := v[at[0]], v[at[1]], v[at[2]], v[at[3]]
	a = (a + b + x) % full
	d = turnedRight(d^a, 16)
	c = (c + d) % full
	b = turnedRight(b^c, 12)
	a = (a + b + y) % full
	d = turnedRight(d^a, 8)
	c = (c + d) % full
	b = turnedRight(b^c, 7)
	v[at[0]], v[at[1]], v[at[2]], v[at[3]] = a, b, c, d
}

func (r reference) sum(b []byte) api.Key {
	h := slices.Clone(r.start)
	h[0] ^= 16842784
	length, at := len(b), 0
	for ; length-at > size; at += size {
		h = r.pressed(h, b[at:at+size], uint64(at+size), false)
	}
	rest := append(slices.Clone(b[at:]), make([]byte, size-(length-at))...)
	h = r.pressed(h, rest, uint64(length), true)
	var hash api.Key
	for i := range hash {
		hash[i] = byte(h[i/4] / (1 << (8 * (i % 4))))
	}
	return hash
}

func check(t *testing.T, r reference, parts ...[]byte) {
	t.Helper()
	all := slices.Concat(parts...)
	if got, want := blake.Sum(parts...), r.sum(all); got != want {
		t.Errorf("Sum of %d bytes in %d parts is %s, not %s", len(all), len(parts), wire.Hex(got[:]), wire.Hex(want[:]))
	}
}
