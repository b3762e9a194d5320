package field_test

import (
	"math/big"
	"math/rand"
	"testing"

	"escutcheon/field"
)

// pairs goes over all pairs of the elements, and over such whose sum, difference or product is one of them.
func pairs(visit func(a, b *big.Int)) {
	es := elements()
	for _, a := range es {
		for _, b := range es {
			visit(a, b)
		}
	}
	x := rand.New(rand.NewSource(2))
	for _, e := range es {
		for range 8 {
			a := modulo(plusOf(random(x), 1))
			visit(a, modulo(new(big.Int).Sub(e, a)))
			visit(modulo(new(big.Int).Add(e, a)), a)
			visit(a, modulo(new(big.Int).Mul(e, inverse(a))))
		}
	}
}

func inverse(a *big.Int) *big.Int {
	return new(big.Int).Exp(a, plusOf(p, -2), p)
}

func TestAdd(t *testing.T) {
	pairs(func(a, b *big.Int) {
		if x := elem(a).Add(elem(b)); !is(x, modulo(new(big.Int).Add(a, b))) {
			t.Fatalf("%v + %v = %v", a, b, number(x.Bytes()))
		}
	})
}

func TestSub(t *testing.T) {
	pairs(func(a, b *big.Int) {
		if x := elem(a).Sub(elem(b)); !is(x, modulo(new(big.Int).Sub(a, b))) {
			t.Fatalf("%v - %v = %v", a, b, number(x.Bytes()))
		}
	})
}

func TestMul(t *testing.T) {
	pairs(func(a, b *big.Int) {
		if x := elem(a).Mul(elem(b)); !is(x, modulo(new(big.Int).Mul(a, b))) {
			t.Fatalf("%v * %v = %v", a, b, number(x.Bytes()))
		}
	})
}

// Products whose words, when they are brought below 2^255, are carried through to the last one.
func TestMulCarriesThrough(t *testing.T) {
	x := rand.New(rand.NewSource(3))
	for range 4000 {
		target := new(big.Int).Lsh(big.NewInt(x.Int63()), 192)
		target = modulo(target.Add(target, big.NewInt(x.Int63n(1500))))
		a := modulo(plusOf(words(x), 2))
		if a.Sign() == 0 {
			continue
		}
		b := modulo(new(big.Int).Mul(target, inverse(a)))
		if y := elem(a).Mul(elem(b)); !is(y, target) {
			t.Fatalf("%v * %v = %v", a, b, number(y.Bytes()))
		}
	}
}

// Elements that were never bytes between: what a call answers is as good as what Of answers.
func TestCallsUponCalls(t *testing.T) {
	x := rand.New(rand.NewSource(4))
	es := elements()
	n := es[len(es)-1]
	e := elem(n)
	for i := range 20000 {
		m := es[x.Intn(len(es))]
		next := new(big.Int)
		switch x.Intn(5) {
		case 0:
			e, n = e.Add(elem(m)), modulo(next.Add(n, m))
		case 1:
			e, n = e.Sub(elem(m)), modulo(next.Sub(n, m))
		case 2:
			e, n = e.Mul(elem(m)), modulo(next.Mul(n, m))
		case 3:
			e, n = e.Square(), modulo(next.Mul(n, n))
		case 4:
			e, n = e.Neg(), modulo(next.Neg(n))
		}
		if !is(e, n) {
			t.Fatalf("step %d: %v, not %v", i, number(e.Bytes()), n)
		}
		if n.Sign() == 0 {
			n, e = big.NewInt(int64(i)+2), field.Small(uint64(i)+2)
		}
	}
}

func TestSquare(t *testing.T) {
	for _, a := range elements() {
		if x := elem(a).Square(); !is(x, modulo(new(big.Int).Mul(a, a))) {
			t.Errorf("%v squared = %v", a, number(x.Bytes()))
		}
	}
	for _, e := range elements() { // and those whose square is at an edge
		if root := new(big.Int).ModSqrt(e, p); root != nil && !is(elem(root).Square(), e) {
			t.Errorf("%v squared is not %v", root, e)
		}
	}
}

func TestNeg(t *testing.T) {
	for _, a := range elements() {
		if x := elem(a).Neg(); !is(x, modulo(new(big.Int).Neg(a))) {
			t.Errorf("-%v = %v", a, number(x.Bytes()))
		}
	}
	if got := field.Small(0).Neg(); !is(got, zero) {
		t.Error("-0 =", got.Bytes())
	}
}

func TestInv(t *testing.T) {
	for _, a := range elements() {
		if x := elem(a).Inv(); !is(x, inverse(a)) {
			t.Errorf("Inv of %v = %v", a, number(x.Bytes()))
		}
	}
	if got := field.Small(0).Inv(); !is(got, zero) {
		t.Error("Inv of 0 =", got.Bytes())
	}
}

func TestPower(t *testing.T) {
	bases := []*big.Int{zero, one, two, big.NewInt(19), plusOf(p, -1), plusOf(p, -2), rootOfMinusOne(), modulo(random(rand.New(rand.NewSource(5))))}
	exponents := numbers()
	for bits := range 256 {
		exponents = append(exponents, power(bits))
	}
	for _, base := range bases {
		for _, e := range exponents {
			if x := elem(base).Power(key(e)); !is(x, new(big.Int).Exp(base, e, p)) {
				t.Fatalf("%v to the power %v = %v", base, e, number(x.Bytes()))
			}
		}
	}
}

func TestPowersOfAll(t *testing.T) {
	x := rand.New(rand.NewSource(6))
	for _, base := range elements() {
		for _, e := range []*big.Int{zero, one, two, big.NewInt(3), plusOf(p, -2), plusOf(p, -1), p, power(255), all, words(x), random(x)} {
			if got := elem(base).Power(key(e)); !is(got, new(big.Int).Exp(base, e, p)) {
				t.Errorf("%v to the power %v = %v", base, e, number(got.Bytes()))
			}
		}
	}
}

func TestThePowers0AndPLess2(t *testing.T) {
	for _, n := range elements() {
		x := elem(n)
		if got := x.Power(key(zero)); !is(got, one) {
			t.Errorf("%v to the power 0 = %v", n, number(got.Bytes()))
		}
		if x.Power(key(plusOf(p, -2))).Bytes() != x.Inv().Bytes() {
			t.Errorf("%v to the power p - 2 is not its Inv", n)
		}
	}
}
