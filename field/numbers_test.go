package field_test

import (
	"math"
	"math/big"
	"math/rand"
	"slices"
	"testing"

	"escutcheon/api"
	"escutcheon/field"
)

var (
	zero = big.NewInt(0)
	one  = big.NewInt(1)
	two  = big.NewInt(2)
	p    = plusOf(power(255), -19)
	all  = plusOf(power(256), -1) // what all 256 bits say at most
)

func power(bits int) *big.Int {
	return new(big.Int).Lsh(one, uint(bits))
}

func plusOf(n *big.Int, k int64) *big.Int {
	return new(big.Int).Add(n, big.NewInt(k))
}

func modulo(n *big.Int) *big.Int {
	return new(big.Int).Mod(n, p)
}

// key writes a number below 2^256, the lowest byte first.
func key(n *big.Int) api.Key {
	var k api.Key
	n.FillBytes(k[:])
	slices.Reverse(k[:])
	return k
}

func number(k api.Key) *big.Int {
	slices.Reverse(k[:])
	return new(big.Int).SetBytes(k[:])
}

// said is the number whose lowest 255 bits are n's, modulo p.
func said(n *big.Int) *big.Int {
	return modulo(new(big.Int).Mod(n, power(255)))
}

func elem(n *big.Int) field.Elem {
	return field.Of(key(n))
}

func is(x field.Elem, n *big.Int) bool {
	return x.Bytes() == key(n)
}

// words is a number of four words of which each is at an edge of its own, or anywhere.
func words(x *rand.Rand) *big.Int {
	n := new(big.Int)
	for range 4 {
		word := [...]uint64{0, 1, 19, 38, math.MaxUint64, math.MaxUint64 - 1, math.MaxUint64 - 18, 1 << 63, 1<<63 - 1, 1<<51 - 1, x.Uint64(), x.Uint64()}[x.Intn(12)]
		n.Or(n.Lsh(n, 64), new(big.Int).SetUint64(word))
	}
	return n
}

func random(x *rand.Rand) *big.Int {
	return new(big.Int).Rand(x, power(256))
}

// numbers are such as 256 bits say: small ones, those beside p, those beside a power of 2, others.
func numbers() []*big.Int {
	var n []*big.Int
	for k := range int64(41) {
		n = append(n, big.NewInt(k), plusOf(p, k), plusOf(p, -k), plusOf(all, -k))
	}
	for _, bits := range []int{7, 8, 16, 25, 26, 32, 51, 63, 64, 102, 127, 128, 153, 191, 192, 204, 248, 252, 253, 254, 255} {
		n = append(n, plusOf(power(bits), -1), power(bits), plusOf(power(bits), 1))
	}
	half := new(big.Int).Rsh(p, 1)
	n = append(n, half, plusOf(half, 1), plusOf(half, 2), rootOfMinusOne(), new(big.Int).Sub(p, rootOfMinusOne()))
	for k := int64(-2); k <= 2; k++ {
		n = append(n, plusOf(new(big.Int).Lsh(p, 1), k))
	}
	x := rand.New(rand.NewSource(1))
	for range 40 {
		n = append(n, words(x), random(x))
	}
	return n
}

func rootOfMinusOne() *big.Int {
	return new(big.Int).ModSqrt(plusOf(p, -1), p)
}

// elements are the numbers' own, each once.
func elements() []*big.Int {
	seen := map[string]bool{}
	var es []*big.Int
	for _, n := range numbers() {
		if e := said(n); !seen[e.String()] {
			seen[e.String()] = true
			es = append(es, e)
		}
	}
	return es
}

func TestOfAndBytes(t *testing.T) {
	for _, n := range numbers() {
		if x := elem(n); !is(x, said(n)) {
			t.Errorf("Of(%v).Bytes() = %v", n, number(x.Bytes()))
		}
	}
}

func TestOfEachBit(t *testing.T) {
	for bits := range 255 {
		var k api.Key
		k[bits/8] = 1 << (bits % 8)
		if got := field.Of(k).Bytes(); got != k {
			t.Errorf("bit %d: %v", bits, got)
		}
	}
}

func TestOfEachByte(t *testing.T) {
	for i := range 32 {
		for b := range 256 {
			var k api.Key
			k[i] = byte(b)
			want := k
			want[31] &= 127
			if got := field.Of(k).Bytes(); got != want {
				t.Errorf("byte %d, %d: %v", i, b, got)
			}
		}
	}
}

func TestOfBesideP(t *testing.T) {
	const low, top = 237, 127 // of p's own bytes
	beside := api.Key{0: low, 31: top}
	for i := 1; i < 31; i++ {
		beside[i] = 255
	}
	for d := -237; d <= 18; d++ {
		k, want := beside, api.Key{byte(d)}
		k[0] = byte(low + d)
		if d < 0 {
			want = k
		}
		for _, high := range []byte{0, 128} {
			k[31] = top | high
			if got := field.Of(k).Bytes(); got != want {
				t.Errorf("p + %d, the highest bit %d: %v", d, high, got)
			}
		}
	}
}

func TestTheHighestBitSaysNothing(t *testing.T) {
	for _, n := range numbers() {
		k := key(n)
		k[31] ^= 128
		if got := field.Of(k).Bytes(); got != elem(n).Bytes() {
			t.Errorf("Of(%v), the highest bit turned: %v", n, got)
		}
	}
}

func TestSmall(t *testing.T) {
	ns := []uint64{0, 1, 2, 18, 19, 20, 237, 255, 256, 65535, 65536, math.MaxUint64, math.MaxUint64 - 1, math.MaxUint64 - 18, math.MaxInt64, math.MaxInt64 + 1, math.MaxUint32, math.MaxUint32 + 1, 0x0102030405060708}
	for bits := range 64 {
		ns = append(ns, 1<<bits, 1<<bits-1)
	}
	for _, n := range ns {
		if x := field.Small(n); !is(x, new(big.Int).SetUint64(n)) {
			t.Errorf("Small(%d).Bytes() = %v", n, x.Bytes())
		}
	}
	if got := field.Small(0x0102030405060708).Bytes(); got != (api.Key{8, 7, 6, 5, 4, 3, 2, 1}) {
		t.Error("the lowest byte is not the first", got)
	}
}

func TestCanonical(t *testing.T) {
	for _, n := range numbers() {
		if want := n.Cmp(p) < 0; field.Canonical(key(n)) != want {
			t.Errorf("Canonical(%v) = %t", n, !want)
		}
	}
	for _, e := range elements() {
		k := key(e)
		k[31] |= 128
		if field.Canonical(k) {
			t.Errorf("Canonical(2^255 + %v)", e)
		}
		if !field.Canonical(elem(e).Bytes()) {
			t.Errorf("the bytes of %v are not canonical", e)
		}
	}
}

// Whatever single byte of p - 1, or of p, is another one: where it is greater, the number is not below p any more.
func TestCanonicalHangsOnEachByte(t *testing.T) {
	for i := range 32 {
		for b := range 256 {
			for _, n := range []*big.Int{plusOf(p, -1), p, zero} {
				k := key(n)
				k[i] = byte(b)
				if want := number(k).Cmp(p) < 0; field.Canonical(k) != want {
					t.Errorf("Canonical(%v) = %t", number(k), !want)
				}
			}
		}
	}
}
