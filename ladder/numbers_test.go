package ladder_test

import (
	"math/big"
	"math/rand"
	"slices"

	"escutcheon/api"
)

var (
	zero = big.NewInt(0)
	one  = big.NewInt(1)
	two  = big.NewInt(2)
	p    = plusOf(power(255), -19)
	all  = plusOf(power(256), -1) // what 32 bytes say at most

	prime      = new(big.Int).Add(power(252), decimal("27742317777372353535851937790883648493"))
	curveOrder = times(prime, 8)
	twistOrder = new(big.Int).Sub(times(plusOf(p, 1), 2), curveOrder)
	twistPrime = new(big.Int).Rsh(twistOrder, 2)
)

func decimal(text string) *big.Int {
	n, ok := new(big.Int).SetString(text, 10)
	if !ok {
		panic(text)
	}
	return n
}

func power(bits int) *big.Int {
	return new(big.Int).Lsh(one, uint(bits))
}

func plusOf(n *big.Int, k int64) *big.Int {
	return new(big.Int).Add(n, big.NewInt(k))
}

func times(n *big.Int, k int64) *big.Int {
	return new(big.Int).Mul(n, big.NewInt(k))
}

func modulo(n *big.Int) *big.Int {
	return new(big.Int).Mod(n, p)
}

// key writes a number below 2^256, the lowest byte first.
func key(n *big.Int) api.Key {
	var k api.Key
	n.FillBytes(k[:])
	slices.Reverse(k[:])
	return k
}

func number(k api.Key) *big.Int {
	slices.Reverse(k[:])
	return new(big.Int).SetBytes(k[:])
}

func clamped(k api.Key) api.Key {
	n := number(k)
	for _, bit := range []int{0, 1, 2, 255} {
		n.SetBit(n, bit, 0)
	}
	return key(n.SetBit(n, 254, 1))
}

func random(x *rand.Rand) api.Key {
	return key(new(big.Int).Rand(x, power(256)))
}

// few are the x of all points whose eightfold is nought, on the curve or on its twist.
func few() []*big.Int {
	eight := decimal("325606250916557431795983626356110631294008115727848805560023387167927233504")
	other := decimal("39382357235489614581723060781553021112529911719440698176882885853963445705823")
	return []*big.Int{zero, one, plusOf(p, -1), eight, other}
}

// fewKeys are all the bytes that say one of the few: some also say one from p on, and each may have its highest bit set.
func fewKeys() []api.Key {
	var ks []api.Key
	for _, n := range few() {
		for _, m := range []*big.Int{n, new(big.Int).Add(n, p)} {
			if m.Cmp(power(255)) < 0 {
				ks = append(ks, key(m), key(new(big.Int).Add(m, power(255))))
			}
		}
	}
	return ks
}

// xs are points' bytes, none of them one of the few: small ones, those beside p, those beside a power of 2, any; some have the highest bit set.
func xs() []api.Key {
	var ks []api.Key
	for k := int64(2); k < 19; k++ {
		ks = append(ks, key(big.NewInt(k)), key(plusOf(p, k)), key(plusOf(p, -k)), key(plusOf(power(255), k)), key(plusOf(all, 1-k)))
	}
	for _, bits := range []int{8, 16, 26, 51, 63, 64, 102, 127, 128, 153, 191, 192, 204, 252, 253, 254} {
		ks = append(ks, key(plusOf(power(bits), -1)), key(power(bits)), key(plusOf(power(bits), 1)))
	}
	half := new(big.Int).Rsh(p, 1)
	for _, n := range append(few()[3:], half, prime, middle, new(big.Int).Sub(p, middle)) {
		ks = append(ks, key(plusOf(n, -1)), key(plusOf(n, 1)))
	}
	x := rand.New(rand.NewSource(1))
	for range 30 {
		ks = append(ks, random(x))
	}
	return slices.DeleteFunc(ks, isFew)
}

func isFew(x api.Key) bool {
	return slices.Contains(fewKeys(), x)
}

// secrets are such that are clamped already, and such that are not; so many times a point is, on the way, nought, or the point itself, or beside it.
func secrets() []api.Key {
	ks := []api.Key{{}, key(all), key(one), key(power(254)), key(plusOf(power(255), -8)), key(power(255)), key(plusOf(power(254), 8)), key(plusOf(power(255), -1))}
	for _, order := range []*big.Int{prime, twistPrime} {
		for k := int64(-2); k <= 2; k++ {
			for shift := range uint(4) {
				if n := new(big.Int).Lsh(plusOf(order, k), shift); n.Cmp(all) <= 0 {
					ks = append(ks, key(n))
				}
			}
		}
	}
	for _, bits := range []int{3, 4, 7, 8, 63, 64, 128, 192, 247, 248, 252, 253} {
		ks = append(ks, key(power(bits)), key(plusOf(power(bits), -1)))
	}
	x := rand.New(rand.NewSource(2))
	for range 20 {
		ks = append(ks, random(x), clamped(random(x)))
	}
	return ks
}
