package field_test

import (
	"math/big"
	"math/rand"
	"sync"
	"testing"

	"escutcheon/api"
	"escutcheon/field"
)

func TestExamplesOfTheChapter(t *testing.T) {
	if x := field.Small(2).Inv().Mul(field.Small(4)); !field.Equal(x, field.Small(2)) || x.Bytes() != (api.Key{2}) {
		t.Error("Small(2).Inv().Mul(Small(4)) =", x.Bytes())
	}
	want := api.Key{0: 236, 31: 127}
	for i := 1; i < 31; i++ {
		want[i] = 255
	}
	if got := field.Small(0).Sub(field.Small(1)).Bytes(); got != want {
		t.Error("Small(0).Sub(Small(1)) =", got)
	}
}

// triples goes over elements at the edges, and over any others.
func triples(visit func(a, b, c field.Elem)) {
	x := rand.New(rand.NewSource(9))
	es := elements()
	for range 4000 {
		var three [3]field.Elem
		for i := range three {
			if n := x.Intn(2 * len(es)); n < len(es) {
				three[i] = elem(es[n])
			} else {
				three[i] = elem(words(x))
			}
		}
		visit(three[0], three[1], three[2])
	}
}

func TestItIsAField(t *testing.T) {
	none, unit := field.Small(0), field.Small(1)
	triples(func(a, b, c field.Elem) {
		for law, sides := range map[string][2]field.Elem{
			"a + b is b + a":                 {a.Add(b), b.Add(a)},
			"(a + b) + c is a + (b + c)":     {a.Add(b).Add(c), a.Add(b.Add(c))},
			"a b is b a":                     {a.Mul(b), b.Mul(a)},
			"(a b) c is a (b c)":             {a.Mul(b).Mul(c), a.Mul(b.Mul(c))},
			"a (b + c) is a b + a c":         {a.Mul(b.Add(c)), a.Mul(b).Add(a.Mul(c))},
			"a (b - c) is a b - a c":         {a.Mul(b.Sub(c)), a.Mul(b).Sub(a.Mul(c))},
			"a + 0 is a":                     {a.Add(none), a},
			"a 1 is a":                       {a.Mul(unit), a},
			"a 0 is 0":                       {a.Mul(none), none},
			"a - a is 0":                     {a.Sub(a), none},
			"a + -a is 0":                    {a.Add(a.Neg()), none},
			"a - b is a + -b":                {a.Sub(b), a.Add(b.Neg())},
			"a squared is a a":               {a.Square(), a.Mul(a)},
			"(a + b)(a - b) is a a - b b":    {a.Add(b).Mul(a.Sub(b)), a.Square().Sub(b.Square())},
			"the neg of the neg of a is a":   {a.Neg().Neg(), a},
			"the bytes of a say a once more": {field.Of(a.Bytes()), a},
		} {
			if !field.Equal(sides[0], sides[1]) || sides[0].Bytes() != sides[1].Bytes() {
				t.Fatalf("%s: not of %v, %v, %v", law, a.Bytes(), b.Bytes(), c.Bytes())
			}
		}
	})
}

func TestWhatIsNot0HasAnInverse(t *testing.T) {
	for _, n := range elements() {
		x := elem(n)
		if n.Sign() == 0 {
			continue
		}
		if !is(x.Mul(x.Inv()), one) || !is(x.Inv().Mul(x), one) || !is(x.Inv().Inv(), n) {
			t.Errorf("%v has no inverse", n)
		}
	}
}

func TestLawsOfPowers(t *testing.T) {
	x := rand.New(rand.NewSource(10))
	for range 100 {
		e, f := new(big.Int).Rsh(random(x), 1), new(big.Int).Rsh(random(x), 1)
		a, b := elem(words(x)), elem(random(x))
		sum := new(big.Int).Add(e, f)
		if a.Power(key(sum)).Bytes() != a.Power(key(e)).Mul(a.Power(key(f))).Bytes() {
			t.Errorf("%v to the power %v + %v is not the powers' product", a.Bytes(), e, f)
		}
		if a.Mul(b).Power(key(e)).Bytes() != a.Power(key(e)).Mul(b.Power(key(e))).Bytes() {
			t.Errorf("the power %v of a product is not the powers' product", e)
		}
	}
}

func TestAZeroElemIs0(t *testing.T) {
	var z field.Elem
	five := field.Small(5)
	if z.Bytes() != (api.Key{}) || !field.Equal(z, field.Small(0)) || !field.Equal(field.Of(api.Key{}), z) || z.Odd() {
		t.Error("a zero Elem is not 0")
	}
	if !is(z.Add(five), big.NewInt(5)) || !is(five.Sub(z), big.NewInt(5)) || !is(z.Sub(five), plusOf(p, -5)) || !is(z.Mul(five), zero) {
		t.Error("a zero Elem is not reckoned with as 0")
	}
	if !is(z.Inv(), zero) || !is(z.Neg(), zero) || !is(z.Square(), zero) || !is(z.Power(api.Key{}), one) || !is(z.Power(api.Key{1}), zero) {
		t.Error("a zero Elem does not answer as 0")
	}
	if x, ok := field.Root(z, z); !ok || !is(x, zero) {
		t.Error("Root of two zero Elems:", x.Bytes(), ok)
	}
}

// What an element is, it stays, whatever is made of it.
func TestElementsStay(t *testing.T) {
	for _, n := range elements() {
		a, b := elem(n), elem(plusOf(p, -3))
		e := key(n)
		a.Add(b)
		b.Add(a)
		a.Sub(b)
		a.Mul(b)
		a.Square()
		a.Neg()
		a.Inv()
		a.Power(e)
		field.Root(a, b)
		field.Select(a, b, true)
		field.Swap(a, b, true)
		a.Odd()
		k := a.Bytes()
		k[0] ^= 1
		if !is(a, n) || !is(b, plusOf(p, -3)) || e != key(n) {
			t.Errorf("%v was changed: %v, %v", n, a.Bytes(), b.Bytes())
		}
	}
}

func TestManyAtATime(t *testing.T) {
	es := elements()[:24]
	var workers sync.WaitGroup
	for range 8 {
		workers.Go(func() {
			for i, n := range es {
				x := elem(n)
				if !is(x.Inv(), inverse(n)) || !is(x.Add(elem(es[0])).Square(), modulo(new(big.Int).Exp(new(big.Int).Add(n, es[0]), two, p))) {
					t.Errorf("element %d of many goroutines: %v", i, n)
				}
				checkRoot(t, n, es[len(es)-1-i])
			}
		})
	}
	workers.Wait()
}
