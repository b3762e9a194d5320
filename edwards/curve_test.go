package edwards_test

import (
	"math/big"
	"testing"

	"escutcheon/api"
	"escutcheon/edwards"
)

// What the chapter says of points, in whole numbers and with quotients: what the layer answers is held against it.

// point is a point's numbers.
type point struct{ x, y *big.Int }

var (
	curveD = over(big.NewInt(-121665), big.NewInt(121666))
	nought = point{zero, one}
	base   = onHeight(over(big.NewInt(4), big.NewInt(5)))
)

func (a point) String() string {
	return "(" + a.x.String() + ", " + a.y.String() + ")"
}

func (a point) onCurve() bool {
	xx, yy := product(a.x, a.x), product(a.y, a.y)
	return less(yy, xx).Cmp(sum(one, product(curveD, xx, yy))) == 0
}

func (a point) plus(b point) point {
	part := product(curveD, a.x, b.y, a.y, b.x)
	x, y := sum(product(a.x, b.y), product(a.y, b.x)), sum(product(a.y, b.y), product(a.x, b.x))
	return point{over(x, sum(one, part)), over(y, less(one, part))}
}

func (a point) opposite() point {
	return point{less(zero, a.x), a.y}
}

func (a point) times(k *big.Int) point {
	sum := nought
	for i := k.BitLen() - 1; i >= 0; i-- {
		sum = sum.plus(sum)
		if k.Bit(i) == 1 {
			sum = sum.plus(a)
		}
	}
	return sum
}

func (a point) same(b point) bool {
	return a.x.Cmp(b.x) == 0 && a.y.Cmp(b.y) == 0
}

func (a point) bytes() api.Key {
	b := key(a.y)
	if a.x.Bit(0) == 1 {
		b[31] |= 128
	}
	return b
}

// onHeight is the point of y whose x is even; without one, its x is nil.
func onHeight(y *big.Int) point {
	yy := product(y, y)
	x := new(big.Int).ModSqrt(over(less(yy, one), sum(one, product(curveD, yy))), p)
	if x != nil && x.Bit(0) == 1 {
		x = less(zero, x)
	}
	return point{x, y}
}

// ofBytes is the point of bytes, if they are one's.
func ofBytes(b api.Key) (point, bool) {
	odd := b[31] >= 128
	b[31] &= 127
	if number(b).Cmp(p) >= 0 {
		return nought, false
	}
	a := onHeight(number(b))
	if a.x == nil || odd && a.x.Sign() == 0 {
		return nought, false
	}
	if odd {
		a = a.opposite()
	}
	return a, true
}

// few are the points whose eightfold is nought. Of those at which a sum with itself has y = 0, y^2 is -x^2, so that d y^4 + 2 y^2 is 1.
func few() []point {
	rootOfMinusOne := new(big.Int).ModSqrt(plusOf(p, -1), p)
	ps := []point{nought, {zero, plusOf(p, -1)}, {rootOfMinusOne, zero}, {less(zero, rootOfMinusOne), zero}}
	root := new(big.Int).ModSqrt(sum(one, curveD), p)
	for _, r := range []*big.Int{root, less(zero, root)} {
		if y := new(big.Int).ModSqrt(over(less(r, one), curveD), p); y != nil {
			x := product(y, rootOfMinusOne)
			ps = append(ps, point{x, y}, point{x, less(zero, y)}, point{less(zero, x), y}, point{less(zero, x), less(zero, y)})
		}
	}
	return ps
}

// points are such of small order, some times the base, those and each of the few, such on heights at an edge, others.
func points() []point {
	ps := few()
	a := base
	for i := range 10 {
		ps = append(ps, a, a.opposite(), a.plus(ps[i%8]))
		a = a.plus(base)
	}
	for i, n := range numbers() {
		if b, ok := ofBytes(key(n)); ok && b.x.Sign() != 0 {
			ps = append(ps, b)
			if i%8 == 0 {
				ps = append(ps, b.opposite(), b.times(big.NewInt(8)))
			}
		}
	}
	return ps
}

// of is the layer's point of those numbers.
func of(t *testing.T, a point) edwards.Point {
	t.Helper()
	got, ok := edwards.Of(a.bytes())
	if !ok {
		t.Fatalf("%v are no point's bytes", a.bytes())
	}
	return got
}

// forms are one point, come to in ways of which a layer that does not divide may keep unlike numbers.
func forms(t *testing.T, a point) []edwards.Point {
	t.Helper()
	q := of(t, a)
	other := of(t, base)
	return []edwards.Point{
		q,
		q.Add(other).Add(other.Neg()),
		q.Add(other).Add(other).Add(other.Neg().Add(other.Neg())),
		q.Neg().Add(other).Neg().Add(other),
	}
}

func is(got edwards.Point, want point) bool {
	return got.X() == key(want.x) && got.Y() == key(want.y) && got.Bytes() == want.bytes()
}

func check(t *testing.T, got edwards.Point, want point, what string) {
	t.Helper()
	if !is(got, want) {
		t.Errorf("%s: (%v, %v), bytes %v, not %v, bytes %v", what, number(got.X()), number(got.Y()), got.Bytes(), want, want.bytes())
	}
}

func TestThePointsAreOnTheCurve(t *testing.T) {
	eight := big.NewInt(8)
	for _, a := range points() {
		if !a.onCurve() || !a.plus(base).onCurve() || !a.plus(a).onCurve() {
			t.Fatalf("%v is not on the curve, or what it is added to", a)
		}
		if !a.times(times(prime, 8)).same(nought) {
			t.Fatalf("%v is not of the group's order", a)
		}
	}
	fews := few()
	for i, a := range fews {
		if !a.onCurve() || !a.times(eight).same(nought) {
			t.Errorf("%v is not one of the few", a)
		}
		for _, b := range fews[:i] {
			if a.same(b) {
				t.Errorf("%v is there twice", a)
			}
		}
	}
	if len(fews) != 8 || len(points()) < 100 {
		t.Error(len(fews), "of the few, and", len(points()), "points")
	}
	if !base.times(prime).same(nought) || base.x.Bit(0) != 0 || product(base.y, big.NewInt(5)).Int64() != 4 {
		t.Error("the base is another point")
	}
}
