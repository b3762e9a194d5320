package field_test

import (
	"math/big"
	"math/rand"
	"testing"

	"escutcheon/field"
)

// evenRoot is the even x so that v x^2 is u, or nil.
func evenRoot(u, v *big.Int) *big.Int {
	switch {
	case u.Sign() == 0:
		return zero
	case v.Sign() == 0:
		return nil
	}
	x := new(big.Int).ModSqrt(modulo(new(big.Int).Mul(u, inverse(v))), p)
	if x != nil && x.Bit(0) == 1 {
		x.Sub(p, x)
	}
	return x
}

func checkRoot(t *testing.T, u, v *big.Int) (found bool) {
	t.Helper()
	want := evenRoot(u, v)
	x, ok := field.Root(elem(u), elem(v))
	if want == nil && (ok || !is(x, zero)) || want != nil && (!ok || !is(x, want)) {
		t.Errorf("Root(%v, %v) = %v, %t, not %v", u, v, number(x.Bytes()), ok, want)
	}
	return ok
}

func TestRootOfSmall(t *testing.T) {
	for u := range int64(12) {
		for v := range int64(12) {
			for _, a := range []*big.Int{big.NewInt(u), modulo(big.NewInt(-u))} {
				for _, b := range []*big.Int{big.NewInt(v), modulo(big.NewInt(-v))} {
					checkRoot(t, a, b)
				}
			}
		}
	}
}

func TestRootOfAll(t *testing.T) {
	found, none := 0, 0
	x := rand.New(rand.NewSource(7))
	for _, u := range elements() {
		for _, v := range []*big.Int{one, two, plusOf(p, -1), modulo(random(x)), u} {
			if checkRoot(t, u, v) {
				found++
			} else {
				none++
			}
			checkRoot(t, v, u)
		}
	}
	if found < 50 || none < 50 {
		t.Error("the roots are not of both kinds:", found, none)
	}
}

func TestRootOf0(t *testing.T) {
	for _, n := range elements() {
		if x, ok := field.Root(field.Small(0), elem(n)); !ok || !is(x, zero) {
			t.Errorf("Root(0, %v) = %v, %t", n, x.Bytes(), ok)
		}
		if n.Sign() == 0 {
			continue
		}
		if x, ok := field.Root(elem(n), field.Small(0)); ok || !is(x, zero) {
			t.Errorf("Root(%v, 0) = %v, %t", n, x.Bytes(), ok)
		}
	}
	if x, ok := field.Root(elem(p), elem(p)); !ok || !is(x, zero) {
		t.Errorf("Root(p, p) = %v, %t", x.Bytes(), ok)
	}
}

// Of v x^2, the root over v is x or -x, whichever is even; of 2 v x^2 there is none, as 2 is no square.
func TestRootOfWhatWasSquared(t *testing.T) {
	y := rand.New(rand.NewSource(8))
	for _, n := range elements() {
		x, v := elem(n), elem(plusOf(modulo(random(y)), 1))
		u := v.Mul(x.Square())
		r, ok := field.Root(u, v)
		if !ok || r.Odd() || r.Bytes() != x.Bytes() && r.Bytes() != x.Neg().Bytes() {
			t.Errorf("of %v squared: %v, %t", n, number(r.Bytes()), ok)
		}
		if n.Sign() == 0 {
			continue
		}
		if r, ok := field.Root(u.Add(u), v); ok || !is(r, zero) {
			t.Errorf("of twice %v squared: %v, %t", n, number(r.Bytes()), ok)
		}
	}
}
