package edwards_test

import (
	"math/big"
	"math/rand"
	"slices"

	"escutcheon/api"
)

var (
	zero  = big.NewInt(0)
	one   = big.NewInt(1)
	two   = big.NewInt(2)
	p     = plusOf(power(255), -19)
	all   = plusOf(power(256), -1) // what 32 bytes say at most
	prime = new(big.Int).Add(power(252), decimal("27742317777372353535851937790883648493"))
)

func decimal(text string) *big.Int {
	n, ok := new(big.Int).SetString(text, 10)
	if !ok {
		panic(text)
	}
	return n
}

func power(bits int) *big.Int {
	return new(big.Int).Lsh(one, uint(bits))
}

func plusOf(n *big.Int, k int64) *big.Int {
	return new(big.Int).Add(n, big.NewInt(k))
}

func times(n *big.Int, k int64) *big.Int {
	return new(big.Int).Mul(n, big.NewInt(k))
}

func modulo(n *big.Int) *big.Int {
	return new(big.Int).Mod(n, p)
}

func product(ns ...*big.Int) *big.Int {
	n := big.NewInt(1)
	for _, m := range ns {
		n = modulo(n.Mul(n, m))
	}
	return n
}

func sum(a, b *big.Int) *big.Int {
	return modulo(new(big.Int).Add(a, b))
}

func less(a, b *big.Int) *big.Int {
	return modulo(new(big.Int).Sub(a, b))
}

func over(a, b *big.Int) *big.Int {
	return product(a, new(big.Int).ModInverse(b, p))
}

// key writes a number below 2^256, the lowest byte first.
func key(n *big.Int) api.Key {
	var k api.Key
	n.FillBytes(k[:])
	slices.Reverse(k[:])
	return k
}

func number(k api.Key) *big.Int {
	slices.Reverse(k[:])
	return new(big.Int).SetBytes(k[:])
}

func random(x *rand.Rand) *big.Int {
	return new(big.Int).Rand(x, power(256))
}

// numbers are such as 256 bits say: small ones, those beside p, beside what L goes into, beside a power of 2, others.
func numbers() []*big.Int {
	var ns []*big.Int
	for k := range int64(20) {
		ns = append(ns, big.NewInt(k), plusOf(p, k), plusOf(p, -1-k), plusOf(power(255), k), plusOf(all, -k))
	}
	for k := int64(1); k <= 15; k++ {
		many := times(prime, k)
		ns = append(ns, plusOf(many, -1), many, plusOf(many, 1))
	}
	for _, bits := range []int{7, 8, 16, 51, 63, 64, 127, 128, 191, 192, 247, 248, 252, 253, 254} {
		ns = append(ns, plusOf(power(bits), -1), power(bits), plusOf(power(bits), 1))
	}
	x := rand.New(rand.NewSource(1))
	for range 40 {
		ns = append(ns, random(x))
	}
	return ns
}
