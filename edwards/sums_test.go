package edwards_test

import (
	"math/rand"
	"testing"

	"escutcheon/edwards"
)

// pairs goes over each point with itself and its opposite, with each of the few, and with any others.
func pairs(visit func(a, b point)) {
	ps := points()
	x := rand.New(rand.NewSource(3))
	for _, a := range ps {
		visit(a, a)
		visit(a, a.opposite())
		for _, b := range ps[:8] {
			visit(a, b)
			visit(b, a)
		}
		for range 4 {
			visit(a, ps[x.Intn(len(ps))])
		}
	}
}

func TestAdd(t *testing.T) {
	pairs(func(a, b point) {
		check(t, of(t, a).Add(of(t, b)), a.plus(b), "the sum of two points")
	})
}

func TestAddWhatWasComeToBySums(t *testing.T) {
	ps := points()
	for i, a := range ps {
		b := ps[(7*i+3)%len(ps)]
		for j, q := range forms(t, a) {
			for k, r := range forms(t, b) {
				if (i+j+k)%3 == 0 { // all of them would take long
					check(t, q.Add(r), a.plus(b), "the sum of sums")
				}
			}
		}
	}
}

// What is kept of a sum beside its numbers shows in the next sum.
func TestLongSums(t *testing.T) {
	ps := points()
	x := rand.New(rand.NewSource(4))
	for range 20 {
		want := ps[x.Intn(len(ps))]
		got := of(t, want)
		for range 20 {
			b := ps[x.Intn(len(ps))]
			switch x.Intn(4) {
			case 0:
				got, want = got.Add(of(t, b)), want.plus(b)
			case 1:
				got, want = of(t, b).Add(got), b.plus(want)
			case 2:
				got, want = got.Add(got), want.plus(want)
			case 3:
				got, want = got.Neg().Add(of(t, b)), want.opposite().plus(b)
			}
			check(t, got, want, "a sum of sums")
		}
	}
}

func TestAPointAndItself(t *testing.T) {
	for _, a := range points() {
		for _, q := range forms(t, a) {
			check(t, q.Add(q), a.plus(a), "a point and itself")
			check(t, q.Add(of(t, a)), a.plus(a), "a point and itself, come to in two ways")
		}
	}
}

func TestAPointAndItsOpposite(t *testing.T) {
	for _, a := range points() {
		for _, q := range forms(t, a) {
			check(t, q.Neg(), a.opposite(), "the opposite")
			check(t, q.Neg().Neg(), a, "the opposite's opposite")
			for _, sum := range []edwards.Point{q.Add(q.Neg()), q.Neg().Add(q), of(t, a).Add(q.Neg()), q.Add(of(t, a.opposite()))} {
				check(t, sum, nought, "a point and its opposite")
				if !edwards.Equal(sum, edwards.Point{}) || !edwards.Equal(edwards.Point{}, sum) {
					t.Errorf("%v and its opposite are not nought", a)
				}
			}
		}
	}
}

func TestNeg(t *testing.T) {
	for _, a := range points() {
		q := of(t, a).Neg()
		check(t, q, a.opposite(), "the opposite")
		check(t, q.Add(of(t, base)), a.opposite().plus(base), "the opposite, added to")
		if edwards.Equal(q, of(t, a)) != (a.x.Sign() == 0) {
			t.Errorf("%v and its opposite: the same, or not, wrongly", a)
		}
	}
}

func TestSumsWithNought(t *testing.T) {
	for _, a := range points() {
		for _, q := range forms(t, a) {
			for _, none := range []edwards.Point{{}, of(t, nought), of(t, base).Add(of(t, base).Neg())} {
				check(t, q.Add(none), a, "a point and nought")
				check(t, none.Add(q), a, "nought and a point")
			}
		}
	}
}

func TestEqual(t *testing.T) {
	ps := points()
	for i, a := range ps {
		for j, b := range ps {
			if i%5 != 0 && j >= 8 {
				continue // all of them would take long
			}
			if got := edwards.Equal(of(t, a), of(t, b)); got != a.same(b) {
				t.Errorf("Equal(%v, %v) = %t", a, b, got)
			}
		}
	}
}

// The same point is the same, in whatever way it was come to; one that shares its x or its y is another.
func TestEqualHangsOnThePointAlone(t *testing.T) {
	for _, a := range points() {
		mirrored := a.plus(point{zero, less(zero, one)}).opposite() // of the same x
		for _, q := range forms(t, a) {
			for _, r := range forms(t, a) {
				if !edwards.Equal(q, r) {
					t.Errorf("%v is not the same as itself", a)
				}
			}
			for _, b := range []point{a.opposite(), mirrored, mirrored.opposite(), a.plus(base)} {
				for _, r := range forms(t, b) {
					if edwards.Equal(q, r) != a.same(b) || edwards.Equal(r, q) != a.same(b) {
						t.Errorf("%v and %v: the same, or not, wrongly", a, b)
					}
				}
			}
		}
	}
}
