package scalar_test

import (
	"math/big"
	"math/rand"
	"sync"
	"testing"

	"escutcheon/api"
	"escutcheon/scalar"
)

func TestExamplesOfTheChapter(t *testing.T) {
	if got := scalar.MulAdd(api.Key{2}, api.Key{3}, api.Key{4}); got != (api.Key{10}) {
		t.Error("MulAdd(2, 3, 4) =", got)
	}
	if got := scalar.Neg(api.Key{1}); got[0] != 236 || got != key(plusOf(order, -1)) {
		t.Error("Neg(1) =", got)
	}
}

// triples goes over numbers at the edges, and over any others, scalars or not.
func triples(visit func(a, b, c api.Key)) {
	x := rand.New(rand.NewSource(7))
	ns := numbers()
	for range 3000 {
		var three [3]api.Key
		for i := range three {
			if n := x.Intn(2 * len(ns)); n < len(ns) {
				three[i] = key(ns[n])
			} else {
				three[i] = key(words(x, 4))
			}
		}
		visit(three[0], three[1], three[2])
	}
}

func mul(a, b api.Key) api.Key {
	return scalar.MulAdd(a, b, api.Key{})
}

// reduced is the scalar of 32 bytes.
func reduced(a api.Key) api.Key {
	var b api.Long
	copy(b[:], a[:])
	return scalar.Reduce(b)
}

func TestSumsAndProductsAreThoseOfNumbersModuloL(t *testing.T) {
	add, neg, none, unit := scalar.Add, scalar.Neg, api.Key{}, api.Key{1}
	triples(func(a, b, c api.Key) {
		for law, sides := range map[string][2]api.Key{
			"a + b is b + a":                {add(a, b), add(b, a)},
			"(a + b) + c is a + (b + c)":    {add(add(a, b), c), add(a, add(b, c))},
			"a b is b a":                    {mul(a, b), mul(b, a)},
			"(a b) c is a (b c)":            {mul(mul(a, b), c), mul(a, mul(b, c))},
			"a (b + c) is a b + a c":        {mul(a, add(b, c)), scalar.MulAdd(a, b, mul(a, c))},
			"a b + c is the product plus c": {scalar.MulAdd(a, b, c), add(mul(a, b), c)},
			"a + 0 is a":                    {add(a, none), reduced(a)},
			"a 1 is a":                      {mul(a, unit), reduced(a)},
			"a 0 is 0":                      {mul(a, none), none},
			"a + Neg(a) is 0":               {add(a, neg(a)), none},
			"Neg(Neg(a)) is a":              {neg(neg(a)), reduced(a)},
			"Neg(a) b is Neg(a b)":          {mul(neg(a), b), neg(mul(a, b))},
			"a + L is a":                    {add(a, scalar.Order()), reduced(a)},
			"a L is 0":                      {mul(a, scalar.Order()), none},
			"what is reduced is as a":       {mul(reduced(a), reduced(b)), mul(a, b)},
			"a scalar stays":                {reduced(reduced(a)), reduced(a)},
		} {
			if sides[0] != sides[1] {
				t.Fatalf("%s: not of %v, %v, %v", law, a, b, c)
			}
			if !scalar.May(sides[0]) {
				t.Fatalf("%s: %v is no scalar, of %v, %v, %v", law, sides[0], a, b, c)
			}
		}
	})
}

// The order is a prime number: what is not 0 has an inverse, its power L - 2.
func TestWhatIsNot0HasAnInverse(t *testing.T) {
	for _, n := range numbers() {
		if modulo(n).Sign() == 0 {
			continue
		}
		inverse := key(new(big.Int).ModInverse(n, order))
		if got := mul(key(n), inverse); got != (api.Key{1}) {
			t.Errorf("%v times its inverse = %v", n, number(got))
		}
	}
}

func TestWhatIsAnsweredIsAScalar(t *testing.T) {
	x := rand.New(rand.NewSource(8))
	triples(func(a, b, c api.Key) {
		var two api.Long
		copy(two[:32], a[:])
		copy(two[32:], b[:])
		for name, got := range map[string]api.Key{
			"Reduce": scalar.Reduce(two), "MulAdd": scalar.MulAdd(a, b, c), "Add": scalar.Add(a, b), "Neg": scalar.Neg(a),
			"Reduce of any": scalar.Reduce(long(random(x, power(512)))),
		} {
			if !scalar.May(got) || number(got).Cmp(order) >= 0 {
				t.Fatalf("%s of %v, %v, %v: %v is no scalar", name, a, b, c, got)
			}
		}
	})
}

// What is answered is handed in again, many times over.
func TestCallsUponCalls(t *testing.T) {
	x := rand.New(rand.NewSource(9))
	ns := numbers()
	n := ns[len(ns)-1]
	k := key(n)
	for i := range 20000 {
		m := ns[x.Intn(len(ns))]
		next := new(big.Int)
		switch x.Intn(3) {
		case 0:
			k, n = scalar.Add(k, key(m)), modulo(next.Add(n, m))
		case 1:
			k, n = scalar.MulAdd(k, key(m), k), modulo(next.Add(next.Mul(n, m), n))
		case 2:
			k, n = scalar.Neg(k), modulo(next.Neg(n))
		}
		if k != key(n) {
			t.Fatalf("step %d: %v, not %v", i, number(k), n)
		}
		if n.Sign() == 0 {
			n = big.NewInt(int64(i) + 2)
			k = key(n)
		}
	}
}

func TestManyAtATime(t *testing.T) {
	ns := numbers()
	var workers sync.WaitGroup
	for range 8 {
		workers.Go(func() {
			for i, a := range ns {
				b := ns[len(ns)-1-i]
				want := new(big.Int).Mul(a, b)
				want = modulo(want.Add(want, a))
				if got := scalar.MulAdd(key(a), key(b), key(a)); got != key(want) {
					t.Errorf("%v * %v + %v of many goroutines: %v", a, b, a, number(got))
				}
			}
		})
	}
	workers.Wait()
}
