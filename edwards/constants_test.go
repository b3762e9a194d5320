package edwards_test

import (
	"math/big"
	"testing"

	"escutcheon/api"
	"escutcheon/edwards"
	"escutcheon/field"
)

func TestConstants(t *testing.T) {
	d, b := edwards.Constants()
	if d.Bytes() != key(curveD) {
		t.Errorf("d is %v, not %v", number(d.Bytes()), curveD)
	}
	if !field.Equal(d.Mul(field.Small(121666)).Add(field.Small(121665)), field.Small(0)) {
		t.Error("d is not -121665 / 121666")
	}
	check(t, b, base, "the base")
	for _, q := range forms(t, base) {
		if !edwards.Equal(b, q) {
			t.Error("the base is not the same as a point of its numbers")
		}
	}
}

// What Constants finds by quotients and a root is what the other calls go by.
func TestConstantsAreThoseOfTheOtherCalls(t *testing.T) {
	d, b := edwards.Constants()
	if !edwards.Equal(b, edwards.Base(api.Key{1})) || b.Bytes() != edwards.Base(api.Key{1}).Bytes() {
		t.Error("Base goes by another base")
	}
	for _, n := range numbers() {
		if !edwards.Equal(b.Mul(key(n)), edwards.Base(key(n))) {
			t.Errorf("%v times the base is not Base", n)
		}
	}
	for _, a := range points() {
		x, y := field.Of(of(t, a).X()), field.Of(of(t, a).Y())
		if !field.Equal(y.Square().Sub(x.Square()), field.Small(1).Add(d.Mul(x.Square()).Mul(y.Square()))) {
			t.Errorf("%v is not on the curve of this d", a)
		}
		part := d.Mul(x).Mul(y).Mul(x).Mul(y)
		want := x.Mul(y).Add(y.Mul(x)).Mul(field.Small(1).Add(part).Inv())
		if of(t, a).Add(of(t, a)).X() != want.Bytes() {
			t.Errorf("%v and itself: Add goes by another d", a)
		}
	}
}

func TestConstantsStay(t *testing.T) {
	d, b := edwards.Constants()
	b = b.Add(b).Mul(key(big.NewInt(77)))
	d = d.Add(field.Small(1))
	again, one := edwards.Constants()
	if field.Equal(d, again) || again.Bytes() != key(curveD) || edwards.Equal(b, one) {
		t.Error("what is made of the constants changes them")
	}
	check(t, one, base, "the base, found already")
}
