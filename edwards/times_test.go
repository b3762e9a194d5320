package edwards_test

import (
	"crypto/ed25519"
	"crypto/sha512"
	"math/big"
	"math/rand"
	"testing"

	"escutcheon/api"
	"escutcheon/edwards"
	"escutcheon/scalar"
	"escutcheon/wire"
)

func TestMulOfSmallNumbers(t *testing.T) {
	for i, a := range points() {
		want := nought
		for k := range 20 {
			q := forms(t, a)[(i+k)%4]
			check(t, q.Mul(api.Key{byte(k)}), want, "so often as a small number says")
			want = want.plus(a)
		}
	}
}

func TestMul(t *testing.T) {
	ps := points()
	for i, n := range numbers() {
		for j := range 3 {
			a := ps[(5*i+37*j)%len(ps)]
			check(t, forms(t, a)[(i+j)%4].Mul(key(n)), a.times(n), "so often as a number says")
		}
	}
}

// Of a point that is not of L's order alone, k counts as it is: not what is left of it modulo L.
func TestMulOfEachOfTheFewAndOfSumsWithThem(t *testing.T) {
	for _, low := range few() {
		for _, a := range []point{low, low.plus(base)} {
			for _, n := range []*big.Int{prime, plusOf(prime, 1), plusOf(times(prime, 3), -1), times(prime, 8), times(prime, 15), all, power(255)} {
				check(t, of(t, a).Mul(key(n)), a.times(n), "so often one of the few")
			}
		}
	}
}

// 256 bits count, the highest one too.
func TestMulByEachBit(t *testing.T) {
	for _, a := range []point{base, few()[7], base.plus(few()[4]), points()[40]} {
		want := a
		for bit := range 256 {
			k := turned(api.Key{}, bit)
			check(t, of(t, a).Mul(k), want, "so often as one bit says")
			if a.same(base) {
				check(t, edwards.Base(k), want, "so often the base as one bit says")
			}
			want = want.plus(want)
		}
	}
}

// Each bit of k turned adds, or takes, as much as it counts for.
func TestMulHangsOnEachBitOfK(t *testing.T) {
	for _, k := range []api.Key{key(all), key(random(rand.New(rand.NewSource(5))))} {
		q := edwards.Base(k)
		step := edwards.Base(api.Key{1})
		for bit := range 256 {
			want := q.Add(step)
			if number(k).Bit(bit) == 1 {
				want = q.Add(step.Neg())
			}
			got := edwards.Base(turned(k, bit))
			if !edwards.Equal(got, want) || edwards.Equal(got, q) {
				t.Errorf("bit %d of %v, turned: Base is (%v, %v)", bit, k, got.X(), got.Y())
			}
			step = step.Add(step)
		}
	}
}

func TestMulByNone(t *testing.T) {
	for _, a := range points() {
		for _, q := range forms(t, a) {
			check(t, q.Mul(api.Key{}), nought, "no times a point")
			check(t, q.Mul(api.Key{1}), a, "once a point")
			if !edwards.Equal(q.Mul(api.Key{}), edwards.Point{}) {
				t.Errorf("no times %v is not nought", a)
			}
		}
	}
	check(t, edwards.Base(api.Key{}), nought, "no times the base")
	check(t, edwards.Base(api.Key{1}), base, "once the base")
}

func TestNoughtSoOften(t *testing.T) {
	for _, n := range numbers() {
		for _, none := range []edwards.Point{{}, of(t, nought)} {
			check(t, none.Mul(key(n)), nought, "nought, so often")
		}
	}
}

func TestBase(t *testing.T) {
	for _, n := range numbers() {
		got := edwards.Base(key(n))
		check(t, got, base.times(n), "so often the base")
		if !edwards.Equal(got, of(t, base).Mul(key(n))) {
			t.Errorf("%v times the base is not so often the base's point", n)
		}
	}
}

func TestLTimesTheBaseIsNought(t *testing.T) {
	for k := int64(0); k <= 15; k++ {
		many := times(prime, k)
		check(t, edwards.Base(key(many)), nought, "so often L times the base")
		check(t, edwards.Base(key(plusOf(many, 1))), base, "so often L times the base, and once more")
		if k > 0 {
			check(t, edwards.Base(key(plusOf(many, -1))), base.opposite(), "so often L times the base, once less")
		}
	}
	check(t, edwards.Base(scalar.Order()), nought, "L times the base")
	if !edwards.Equal(edwards.Base(scalar.Order()), edwards.Point{}) {
		t.Error("L times the base is not nought")
	}
	check(t, edwards.Base(scalar.Neg(api.Key{1})), base.opposite(), "L - 1 times the base")
}

// Each point's L-fold is one of the few, and is nought just where it is so often the base, or where nothing of the few is in it.
func TestLTimesAPoint(t *testing.T) {
	none, some := 0, 0
	for _, a := range points() {
		many := of(t, a).Mul(scalar.Order())
		check(t, many, a.times(prime), "L times a point")
		check(t, many.Mul(api.Key{8}), nought, "8 L times a point")
		check(t, of(t, a).Mul(key(times(prime, 8))), nought, "8 L times a point")
		if edwards.Equal(many, edwards.Point{}) {
			none++
		} else {
			some++
		}
	}
	if none < 20 || some < 20 {
		t.Error(none, "points of L's order and", some, "others are too few")
	}
}

// The library's publics are so often the base as the clamped half of a seed's hash says.
func TestBaseIsAsTheLibraryHasIt(t *testing.T) {
	x := rand.New(rand.NewSource(6))
	for range 200 {
		seed := key(random(x))
		half := sha512.Sum512(seed[:])
		got := edwards.Base(scalar.Clamp(api.Key(half[:32]))).Bytes()
		want := ed25519.NewKeyFromSeed(seed[:]).Public().(ed25519.PublicKey)
		if got != api.Key(want) {
			t.Errorf("the public of the seed %v is %v, not %v", seed, got, want)
		}
		if _, ok := edwards.Of(got); !ok {
			t.Errorf("%v are no point's bytes", got)
		}
	}
}

// The publics that RFC 8032 prints, and the seeds that they are of.
func TestKnownPublics(t *testing.T) {
	for seed, public := range map[string]string{
		"9d61b19deffd5a60ba844af492ec2cc44449c5697b326919703bac031cae7f60": "d75a980182b10ab7d54bfed3c964073a0ee172f3daa62325af021a68f707511a",
		"4ccd089b28ff96da9db6c346ec114e0f5b8a319f35aba624da8cf6ed4fb8a6fb": "3d4017c3e843895a92b70aa74d1b7ebc9c982ccf2ec4968cc0cd55f12af4660c",
		"c5aa8df43f9f837bedb7442f31dcb7b166d38535076f094b85ce3a2e0b4458f7": "fc51cd8e6218a1a38da47ed00230f0580816ed13ba3303ac5deb911548908025",
	} {
		b, err := wire.OfHex(seed)
		if err != api.OK {
			t.Fatal(seed)
		}
		half := sha512.Sum512(b)
		if got := edwards.Base(scalar.Clamp(api.Key(half[:32]))).Bytes(); wire.Hex(got[:]) != public {
			t.Errorf("the public of %s is %s, not %s", seed, wire.Hex(got[:]), public)
		}
	}
}
