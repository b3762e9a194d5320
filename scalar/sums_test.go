package scalar_test

import (
	"math/big"
	"math/rand"
	"testing"

	"escutcheon/api"
	"escutcheon/scalar"
)

func checkReduce(t *testing.T, n *big.Int) {
	t.Helper()
	if got := scalar.Reduce(long(n)); got != key(modulo(n)) {
		t.Errorf("Reduce(%v) = %v", n, number(got))
	}
}

func checkMulAdd(t *testing.T, a, b, c *big.Int) {
	t.Helper()
	want := new(big.Int).Mul(a, b)
	want = modulo(want.Add(want, c))
	if got := scalar.MulAdd(key(a), key(b), key(c)); got != key(want) {
		t.Fatalf("%v * %v + %v = %v", a, b, c, number(got))
	}
}

func TestReduce(t *testing.T) {
	for _, n := range numbers() {
		checkReduce(t, n)
		checkReduce(t, new(big.Int).Lsh(n, 256))
		checkReduce(t, new(big.Int).Lsh(n, 100))
		checkReduce(t, new(big.Int).Sub(allLong, n))
	}
	x := rand.New(rand.NewSource(2))
	for range 2000 {
		checkReduce(t, words(x, 8))
		checkReduce(t, random(x, power(512)))
	}
}

func TestReduceOfAll255(t *testing.T) {
	var b api.Long
	for i := range b {
		b[i] = 255
	}
	if got := scalar.Reduce(b); got != key(modulo(allLong)) || !scalar.May(got) {
		t.Error("Reduce of 64 times 255 =", got)
	}
	if got := scalar.Reduce(api.Long{}); got != (api.Key{}) {
		t.Error("Reduce of noughts =", got)
	}
}

func TestReduceOfEachBit(t *testing.T) {
	for bit := range 512 {
		checkReduce(t, power(bit))
		checkReduce(t, plusOf(power(bit), -1))
		checkReduce(t, plusOf(power(bit), 1))
		checkReduce(t, new(big.Int).Sub(allLong, power(bit)))
	}
}

func TestReduceOfEachByte(t *testing.T) {
	for i := range 64 {
		for b := range 256 {
			var k api.Long
			k[i] = byte(b)
			want := modulo(new(big.Int).Lsh(big.NewInt(int64(b)), uint(8*i)))
			if got := scalar.Reduce(k); got != key(want) {
				t.Errorf("Reduce, byte %d being %d: %v", i, b, got)
			}
		}
	}
}

// What is a multiple of L, or beside one, however great.
func TestReduceBesideMultiplesOfL(t *testing.T) {
	x := rand.New(rand.NewSource(3))
	greatest := new(big.Int).Div(plusOf(allLong, -3), order)
	manies := []*big.Int{one, big.NewInt(2), greatest, plusOf(greatest, -1)}
	for bits := range 259 {
		manies = append(manies, power(bits), plusOf(power(bits), 1), random(x, power(bits+1)))
	}
	for _, many := range manies {
		if many.Sign() == 0 || many.Cmp(greatest) > 0 {
			continue
		}
		n := new(big.Int).Mul(many, order)
		for k := int64(-3); k <= 3; k++ {
			checkReduce(t, plusOf(n, k))
		}
	}
}

func TestMulAdd(t *testing.T) {
	ns := numbers()
	x := rand.New(rand.NewSource(4))
	for _, a := range ns {
		for _, b := range ns {
			checkMulAdd(t, a, b, ns[x.Intn(len(ns))])
		}
	}
	for range 4000 {
		checkMulAdd(t, words(x, 4), words(x, 4), words(x, 4))
		checkMulAdd(t, random(x, order), random(x, order), random(x, order))
	}
}

func TestMulAddOfTheGreatest(t *testing.T) {
	for _, a := range []*big.Int{all, plusOf(all, -1), order, plusOf(order, -1), power(255), one, zero} {
		for _, b := range []*big.Int{all, plusOf(all, -1), order, plusOf(order, -1), power(255), one, zero} {
			for _, c := range []*big.Int{all, plusOf(all, -1), order, plusOf(order, -1), power(255), one, zero} {
				checkMulAdd(t, a, b, c)
			}
		}
	}
}

func TestMulAddOfEachBit(t *testing.T) {
	for i := range 256 {
		for j := range 256 {
			checkMulAdd(t, power(i), power(j), zero)
		}
		checkMulAdd(t, power(i), all, one)
		checkMulAdd(t, all, power(i), all)
		checkMulAdd(t, zero, one, power(i))
		checkMulAdd(t, power(i), one, plusOf(power(i), -1))
	}
}

// Sums that come to 0, to L - 1, or beside them.
func TestMulAddBesideL(t *testing.T) {
	x := rand.New(rand.NewSource(5))
	for range 400 {
		a, b := words(x, 4), random(x, power(256))
		c := modulo(new(big.Int).Neg(new(big.Int).Mul(a, b)))
		for k := int64(-2); k <= 2; k++ {
			d := modulo(plusOf(c, k))
			if got := scalar.MulAdd(key(a), key(b), key(d)); got != key(modulo(big.NewInt(k))) {
				t.Errorf("%v * %v + %v = %v", a, b, d, number(got))
			}
		}
	}
}

func TestAdd(t *testing.T) {
	ns := numbers()
	for _, a := range ns {
		for _, b := range ns {
			if got := scalar.Add(key(a), key(b)); got != key(modulo(new(big.Int).Add(a, b))) {
				t.Fatalf("%v + %v = %v", a, b, number(got))
			}
		}
	}
	x := rand.New(rand.NewSource(6))
	for range 1000 { // scalars whose sum is at L
		a := plusOf(random(x, plusOf(order, -4)), 2)
		for k := int64(-2); k <= 2; k++ {
			b := plusOf(new(big.Int).Sub(order, a), k)
			if got := scalar.Add(key(a), key(b)); got != key(modulo(big.NewInt(k))) {
				t.Fatalf("%v + %v = %v", a, b, number(got))
			}
		}
	}
}

func TestNeg(t *testing.T) {
	for _, a := range numbers() {
		if got := scalar.Neg(key(a)); got != key(modulo(new(big.Int).Neg(a))) {
			t.Errorf("Neg(%v) = %v", a, number(got))
		}
	}
}

func TestNegOf0IsAScalar(t *testing.T) {
	for many := range int64(16) {
		if got := scalar.Neg(key(times(order, many))); got != (api.Key{}) {
			t.Errorf("Neg of %d L = %v", many, got)
		}
	}
}
