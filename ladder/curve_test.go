package ladder_test

import (
	"math/big"
	"testing"

	"escutcheon/api"
)

// What the chapter says first, without any ladder: points of the curve, or of its twist, that are added by the line through them.

// point is one of by y^2 = x^3 + 486662 x^2 + x; without an x it is nought.
type point struct{ x, y, by *big.Int }

var middle = big.NewInt(486662)

func over(n, d *big.Int) *big.Int {
	return modulo(new(big.Int).Mul(n, new(big.Int).ModInverse(modulo(d), p)))
}

func product(ns ...*big.Int) *big.Int {
	all := big.NewInt(1)
	for _, n := range ns {
		all = modulo(all.Mul(all, n))
	}
	return all
}

func less(a, b *big.Int) *big.Int {
	return modulo(new(big.Int).Sub(a, b))
}

func sum(ns ...*big.Int) *big.Int {
	all := new(big.Int)
	for _, n := range ns {
		all = modulo(all.Add(all, n))
	}
	return all
}

// height is x^3 + 486662 x^2 + x.
func height(x *big.Int) *big.Int {
	return sum(product(x, x, x), product(middle, x, x), x)
}

// pointOf finds a point of x: on the curve, or, as 2 is no square, on the twist 2 y^2.
func pointOf(x *big.Int) point {
	for _, by := range []*big.Int{one, two} {
		if y := new(big.Int).ModSqrt(over(height(x), by), p); y != nil {
			return point{x, y, by}
		}
	}
	panic("neither on the curve nor on its twist")
}

func (a point) plus(b point) point {
	var slope *big.Int
	switch {
	case a.x == nil:
		return b
	case b.x == nil:
		return a
	case a.x.Cmp(b.x) != 0:
		slope = over(less(b.y, a.y), less(b.x, a.x))
	case a.y.Cmp(b.y) != 0 || a.y.Sign() == 0:
		return point{}
	default:
		slope = over(sum(product(big.NewInt(3), a.x, a.x), product(two, middle, a.x), one), product(two, a.by, a.y))
	}
	x := less(product(a.by, slope, slope), sum(middle, a.x, b.x))
	return point{x, less(product(slope, less(a.x, x)), a.y), a.by}
}

func (a point) times(k *big.Int) point {
	var all point
	for bit := k.BitLen() - 1; bit >= 0; bit-- {
		all = all.plus(all)
		if k.Bit(bit) == 1 {
			all = all.plus(a)
		}
	}
	return all
}

// said is the number of a point's 32 bytes.
func said(x api.Key) *big.Int {
	x[31] &= 127
	return modulo(number(x))
}

// multiple is what Mul should answer.
func multiple(k, x api.Key) api.Key {
	all := pointOf(said(x)).times(number(clamped(k)))
	if all.x == nil {
		return api.Key{}
	}
	return key(all.x)
}

func TestThePointsAreThoseOfTheCurve(t *testing.T) {
	curve, twist := 0, 0
	for _, x := range xs() {
		a := pointOf(said(x))
		if product(a.by, a.y, a.y).Cmp(height(a.x)) != 0 {
			t.Fatalf("%v is not on its curve", a)
		}
		if b := a.plus(a).plus(a); b.x != nil && product(b.by, b.y, b.y).Cmp(height(b.x)) != 0 {
			t.Fatalf("3 times %v is not on its curve", a)
		}
		order := curveOrder
		if a.by == two {
			order = twistOrder
			twist++
		} else {
			curve++
		}
		if all := a.times(order); all.x != nil {
			t.Fatalf("%v is not of the group's order", a)
		}
	}
	if curve < 30 || twist < 30 {
		t.Error(curve, "points of the curve and", twist, "of its twist are too few")
	}
}
