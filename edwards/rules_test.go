package edwards_test

import (
	"math/big"
	"math/rand"
	"sync"
	"testing"

	"escutcheon/api"
	"escutcheon/edwards"
	"escutcheon/scalar"
)

const many = 16

// first is what many goroutines were answered that all asked at once, ahead of anything else: what is found once is found then.
var first = askedAtOnce()

func askedAtOnce() [many]edwards.Point {
	var got [many]edwards.Point
	var workers sync.WaitGroup
	start := make(chan struct{})
	for i := range many {
		workers.Go(func() {
			<-start
			switch i % 4 {
			case 0:
				got[i] = edwards.Base(api.Key{1})
			case 1:
				got[i], _ = edwards.Of(base.bytes())
			case 2:
				q, _ := edwards.Of(nought.bytes())
				got[i] = q.Add(edwards.Base(api.Key{1}))
			case 3:
				_, got[i] = edwards.Constants()
			}
		})
	}
	close(start)
	workers.Wait()
	return got
}

func TestWhatIsFoundOnceIsThereForTheFirstThatAsk(t *testing.T) {
	for _, q := range first {
		check(t, q, base, "the base, asked for by many at once")
	}
}

func TestExamplesOfTheChapter(t *testing.T) {
	if q := edwards.Base(scalar.Order()); !edwards.Equal(q, edwards.Point{}) {
		t.Error("Base(Order()) =", q.X(), q.Y())
	}
	want := api.Key{88}
	for i := 1; i < 32; i++ {
		want[i] = 102
	}
	if got := edwards.Base(api.Key{1}).Y(); got != want {
		t.Error("Base(1).Y() =", got)
	}
	if x := edwards.Base(api.Key{1}).X(); x[0]&1 != 0 {
		t.Error("the base's x is odd:", x)
	}
}

func TestAZeroPointIsNought(t *testing.T) {
	var z edwards.Point
	check(t, z, nought, "a zero Point")
	check(t, z.Neg(), nought, "a zero Point's opposite")
	check(t, z.Add(z), nought, "two zero Points")
	check(t, z.Add(z.Neg()).Neg().Add(z), nought, "zero Points")
	check(t, z.Mul(key(all)), nought, "a zero Point, so often")
	for _, none := range []edwards.Point{z, z.Neg(), z.Add(z), of(t, nought), of(t, nought).Neg(), edwards.Base(api.Key{})} {
		if !edwards.Equal(z, none) || !edwards.Equal(none, z) {
			t.Error("a zero Point is not the same as nought")
		}
	}
	if z.Bytes() != (api.Key{1}) || z.X() != (api.Key{}) || z.Y() != (api.Key{1}) {
		t.Error("a zero Point's bytes are", z.Bytes(), z.X(), z.Y())
	}
	for _, a := range points() {
		for _, q := range forms(t, a) {
			if edwards.Equal(z, q) != a.same(nought) || edwards.Equal(q, z) != a.same(nought) {
				t.Errorf("a zero Point and %v: the same, or not, wrongly", a)
			}
		}
	}
}

// triples goes over any points, some of the few among them.
func triples(t *testing.T, visit func(a, b, c edwards.Point)) {
	ps := points()
	x := rand.New(rand.NewSource(7))
	for range 300 {
		var three [3]edwards.Point
		for i := range three {
			three[i] = forms(t, ps[x.Intn(len(ps))])[x.Intn(4)]
		}
		visit(three[0], three[1], three[2])
	}
	for range 50 {
		visit(of(t, ps[x.Intn(8)]), of(t, ps[x.Intn(8)]), edwards.Point{})
	}
}

func TestSumsDoNotHangOnOrder(t *testing.T) {
	triples(t, func(a, b, c edwards.Point) {
		for law, sides := range map[string][2]edwards.Point{
			"a + b is b + a":               {a.Add(b), b.Add(a)},
			"(a + b) + c is a + (b + c)":   {a.Add(b).Add(c), a.Add(b.Add(c))},
			"a + b + c is c + b + a":       {a.Add(b).Add(c), c.Add(b).Add(a)},
			"a and its opposite are none":  {a.Add(a.Neg()), {}},
			"the opposite of a sum":        {a.Add(b).Neg(), a.Neg().Add(b.Neg())},
			"a + b, less b, is a":          {a.Add(b).Add(b.Neg()), a},
			"twice a sum is twice its own": {a.Add(b).Mul(api.Key{2}), a.Add(a).Add(b).Add(b)},
		} {
			if !edwards.Equal(sides[0], sides[1]) || sides[0].Bytes() != sides[1].Bytes() || sides[0].X() != sides[1].X() {
				t.Fatalf("%s: not of %v, %v, %v", law, a.Bytes(), b.Bytes(), c.Bytes())
			}
		}
	})
}

// What is added up so often, and so often again, is added up as often as the numbers' sum, or product.
func TestTimesOfSumsAndProducts(t *testing.T) {
	ps := points()
	x := rand.New(rand.NewSource(8))
	for range 60 {
		k, m := new(big.Int).Rsh(random(x), 1), new(big.Int).Rsh(random(x), 1)
		a := of(t, ps[x.Intn(len(ps))])
		if both := a.Mul(key(new(big.Int).Add(k, m))); !edwards.Equal(a.Mul(key(k)).Add(a.Mul(key(m))), both) {
			t.Errorf("%v and %v times %v are not so often as both", k, m, a.Bytes())
		}
		if !edwards.Equal(a.Mul(key(k)).Mul(key(m)), a.Mul(key(m)).Mul(key(k))) {
			t.Errorf("%v and %v times %v hang on order", k, m, a.Bytes())
		}
		if !edwards.Equal(a.Mul(key(k)).Neg(), a.Neg().Mul(key(k))) {
			t.Errorf("%v times the opposite of %v is not the opposite", k, a.Bytes())
		}
		got := edwards.Base(key(k)).Mul(key(m)).Add(edwards.Base(key(all)))
		if !edwards.Equal(got, edwards.Base(scalar.MulAdd(key(k), key(m), key(all)))) {
			t.Errorf("%v times %v times the base, and more, is not so often the base", k, m)
		}
	}
}

// What a point is, it stays, whatever is made of it.
func TestPointsStay(t *testing.T) {
	for _, a := range points() {
		for _, q := range append(forms(t, a), edwards.Point{}) {
			x, y, b := q.X(), q.Y(), q.Bytes()
			k := key(all)
			q.Add(of(t, base))
			of(t, base).Add(q)
			q.Neg()
			q.Mul(k)
			edwards.Equal(q, of(t, base))
			edwards.Base(k)
			for _, answered := range []api.Key{q.X(), q.Y(), q.Bytes()} {
				answered[0] ^= 1
			}
			edwards.Of(b)
			if q.X() != x || q.Y() != y || q.Bytes() != b || k != key(all) {
				t.Errorf("%v was changed: %v, %v", a, q.X(), q.Y())
			}
		}
	}
}

func TestManyAtATime(t *testing.T) {
	ps := points()[:24]
	var workers sync.WaitGroup
	for worker := range 8 {
		workers.Go(func() {
			for i, a := range ps {
				n := big.NewInt(int64(1000*worker + i))
				q, ok := edwards.Of(a.bytes())
				if !ok || !is(q.Mul(key(n)), a.times(n)) || !is(edwards.Base(key(n)).Add(q), base.times(n).plus(a)) {
					t.Errorf("%v of many goroutines is another point", a)
				}
			}
		})
	}
	workers.Wait()
}

// TestNoCallPanics gives all calls any bytes: a panic ends the test.
func TestNoCallPanics(t *testing.T) {
	x := rand.New(rand.NewSource(9))
	var q edwards.Point
	for range 300 {
		b := key(random(x))
		for i := range b {
			if x.Intn(3) == 0 {
				b[i] = [...]byte{0, 1, 127, 128, 237, 255}[x.Intn(6)]
			}
		}
		r, ok := edwards.Of(b)
		if !ok && r.Bytes() != (api.Key{1}) {
			t.Errorf("Of(%v): beside a no, %v", b, r.Bytes())
		}
		q = q.Add(r.Neg()).Mul(b).Add(edwards.Base(b))
		if again, ok := edwards.Of(q.Bytes()); !ok || !edwards.Equal(again, q) || again.X() != q.X() || again.Y() != q.Y() {
			t.Fatalf("%v are no point's bytes", q.Bytes())
		}
	}
}
