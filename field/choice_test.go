package field_test

import (
	"math/big"
	"testing"

	"escutcheon/api"
	"escutcheon/field"
)

func TestSelectAndSwap(t *testing.T) {
	es := elements()
	for i, a := range es {
		b := es[(i*7+3)%len(es)]
		x, y := elem(a), elem(b)
		if got := field.Select(x, y, false); !is(got, a) {
			t.Errorf("Select(%v, %v, false) = %v", a, b, number(got.Bytes()))
		}
		if got := field.Select(x, y, true); !is(got, b) {
			t.Errorf("Select(%v, %v, true) = %v", a, b, number(got.Bytes()))
		}
		if c, d := field.Swap(x, y, false); !is(c, a) || !is(d, b) {
			t.Errorf("Swap(%v, %v, false) = %v, %v", a, b, number(c.Bytes()), number(d.Bytes()))
		}
		if c, d := field.Swap(x, y, true); !is(c, b) || !is(d, a) {
			t.Errorf("Swap(%v, %v, true) = %v, %v", a, b, number(c.Bytes()), number(d.Bytes()))
		}
		if c, d := field.Swap(x, x, true); !is(c, a) || !is(d, a) {
			t.Errorf("Swap of %v with itself: %v, %v", a, number(c.Bytes()), number(d.Bytes()))
		}
	}
}

func TestEqual(t *testing.T) {
	es := elements()
	for i, a := range es {
		for j, b := range es {
			if field.Equal(elem(a), elem(b)) != (i == j) {
				t.Fatalf("Equal(%v, %v) = %t", a, b, i != j)
			}
		}
	}
}

func TestEqualHangsOnEachBit(t *testing.T) {
	for _, n := range []*big.Int{zero, modulo(rootOfMinusOne())} {
		for bits := range 255 {
			k := key(n)
			k[bits/8] ^= 1 << (bits % 8)
			if field.Equal(elem(n), field.Of(k)) || field.Equal(field.Of(k), elem(n)) {
				t.Errorf("%v with bit %d turned is the same", n, bits)
			}
		}
	}
}

// The same number is the same element, whatever bytes said it and whatever calls led to it.
func TestEqualHangsOnTheNumberAlone(t *testing.T) {
	for k := range int64(19) {
		small := field.Small(uint64(k))
		for way, x := range map[string]field.Elem{
			"p more":            elem(plusOf(p, k)),
			"2^255 more":        elem(plusOf(power(255), k)),
			"2^255 and p more":  elem(new(big.Int).Add(power(255), plusOf(p, k))),
			"less its Neg":      field.Small(0).Sub(small.Neg()),
			"up from p - 1":     elem(plusOf(p, -1)).Add(field.Small(uint64(k) + 1)),
			"twice the half":    small.Mul(field.Small(2).Inv()).Add(small.Mul(field.Small(2).Inv())),
			"as often as 1":     small.Mul(field.Small(1)),
			"to the power p":    small.Power(key(p)),
			"its square's root": small.Square().Mul(small.Inv()),
		} {
			if !field.Equal(x, small) || !field.Equal(small, x) {
				t.Errorf("%d, %s: not the same", k, way)
			}
		}
	}
}

func TestOdd(t *testing.T) {
	for _, n := range numbers() {
		if got := elem(n).Odd(); got != (said(n).Bit(0) == 1) {
			t.Errorf("Odd of %v is %t", n, got)
		}
	}
	for bits := range 255 {
		var k api.Key
		k[bits/8] = 1 << (bits % 8)
		if field.Of(k).Odd() != (bits == 0) {
			t.Errorf("Odd of 2^%d is %t", bits, bits != 0)
		}
	}
	for _, n := range elements() {
		if x := elem(n); n.Sign() != 0 && x.Odd() == x.Neg().Odd() {
			t.Errorf("%v and what it lacks to p are both odd, or both not", n)
		}
	}
}
