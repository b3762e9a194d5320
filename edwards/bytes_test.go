package edwards_test

import (
	"math/big"
	"math/rand"
	"testing"

	"escutcheon/api"
	"escutcheon/edwards"
	"escutcheon/wire"
)

func checkOf(t *testing.T, b api.Key) (found bool) {
	t.Helper()
	want, ok := ofBytes(b)
	got, found := edwards.Of(b)
	if found != ok {
		t.Errorf("Of(%v): %t", b, found)
	}
	check(t, got, want, "Of("+wire.Hex(b[:])+")")
	if found && got.Bytes() != b {
		t.Errorf("Of(%v).Bytes() = %v", b, got.Bytes())
	}
	if !found && !edwards.Equal(got, edwards.Point{}) {
		t.Errorf("Of(%v), no point's bytes, is not nought", b)
	}
	return found
}

func turned(b api.Key, bit int) api.Key {
	b[bit/8] ^= 1 << (bit % 8)
	return b
}

func TestOfAtTheEdges(t *testing.T) {
	found, none := 0, 0
	for _, n := range numbers() {
		for _, b := range []api.Key{key(n), turned(key(n), 255)} {
			if checkOf(t, b) {
				found++
			} else {
				none++
			}
		}
	}
	if found < 100 || none < 100 {
		t.Error(found, "points and", none, "bytes of none are too few")
	}
}

// About half of all heights have points: each of them is one's bytes with the highest bit and without.
func TestOfAny(t *testing.T) {
	x := rand.New(rand.NewSource(2))
	found := 0
	for range 300 {
		b := key(random(x))
		if one, other := checkOf(t, b), checkOf(t, turned(b, 255)); one != other {
			t.Errorf("%v: %t, the highest bit turned: %t", b, one, other)
		} else if one {
			found++
		}
	}
	if found < 100 || found > 200 {
		t.Error(found, "of 300 heights have points")
	}
}

func TestOfHangsOnEachBit(t *testing.T) {
	for _, a := range []point{base, nought, base.times(big.NewInt(77)).opposite()} {
		seen := map[api.Key]int{a.bytes(): -1}
		for bit := range 256 {
			b := turned(a.bytes(), bit)
			checkOf(t, b)
			if got, ok := edwards.Of(b); ok {
				if before, is := seen[got.Bytes()]; is {
					t.Errorf("bits %d and %d of %v: turned, the point is the same", before, bit, a)
				}
				seen[got.Bytes()] = bit
			}
		}
	}
}

// The highest bit of the last byte tells the one of two opposite points from the other, and is no part of y.
func TestTheHighestBitOfTheLastByte(t *testing.T) {
	for _, a := range points() {
		if a.x.Sign() == 0 {
			continue
		}
		got, ok := edwards.Of(turned(a.bytes(), 255))
		if !ok {
			t.Fatalf("%v: its opposite is none", a)
		}
		check(t, got, a.opposite(), "the highest bit turned")
		if got.Y() != of(t, a).Y() || got.X() == of(t, a).X() || edwards.Equal(got, of(t, a)) || !edwards.Equal(got, of(t, a).Neg()) {
			t.Errorf("%v: the highest bit turned, it is not its opposite", a)
		}
	}
}

// At y = 1 and y = -1, x is 0: which is not odd.
func TestOfWhereXIs0(t *testing.T) {
	for _, a := range []point{nought, {zero, plusOf(p, -1)}} {
		got, ok := edwards.Of(key(a.y))
		if !ok || got.X() != (api.Key{}) {
			t.Errorf("Of(%v) = (%v, %v), %t", a.y, got.X(), got.Y(), ok)
		}
		check(t, got, a, "Of, the bit not set")
		got, ok = edwards.Of(turned(key(a.y), 255))
		if ok {
			t.Errorf("Of(%v), the bit set: a point", a.y)
		}
		check(t, got, nought, "Of, the bit set")
	}
}

// A y from p on is no point's, even where the height that it says modulo p is one's.
func TestOfWhatIsNotCanonical(t *testing.T) {
	heights := 0
	for k := range int64(19) {
		if onHeight(big.NewInt(k)).x != nil {
			heights++
		}
		for _, b := range []api.Key{key(plusOf(p, k)), turned(key(plusOf(p, k)), 255)} {
			got, ok := edwards.Of(b)
			if ok {
				t.Errorf("Of(p + %d): a point", k)
			}
			check(t, got, nought, "Of what is not canonical")
		}
	}
	if heights < 5 {
		t.Error("only", heights, "of these heights have points")
	}
}

func TestOfHeightsWithoutAPoint(t *testing.T) {
	none := 0
	for y := range int64(100) {
		for _, n := range []*big.Int{big.NewInt(y), plusOf(p, -1-y)} {
			if onHeight(n).x != nil {
				continue
			}
			none++
			for _, b := range []api.Key{key(n), turned(key(n), 255)} {
				if got, ok := edwards.Of(b); ok || !is(got, nought) {
					t.Errorf("Of(%v), a height without a point: (%v, %v), %t", n, got.X(), got.Y(), ok)
				}
			}
		}
	}
	if none < 50 {
		t.Error("only", none, "heights have no point")
	}
}

func TestBytesXAndYOfSums(t *testing.T) {
	for _, a := range points() {
		for _, q := range forms(t, a) {
			check(t, q, a, "a point that was come to by sums")
			if again, ok := edwards.Of(q.Bytes()); !ok || !edwards.Equal(again, q) {
				t.Errorf("the bytes of %v are not its own", a)
			}
		}
	}
}

func TestXAndYAreCanonical(t *testing.T) {
	for _, a := range points() {
		for _, k := range []api.Key{of(t, a).X(), of(t, a).Y(), of(t, a).Neg().X()} {
			if number(k).Cmp(p) >= 0 {
				t.Errorf("%v is not below p", k)
			}
		}
	}
}
