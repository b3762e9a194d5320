package sign_test

import (
	"math/big"
	"slices"
	"testing"

	"escutcheon/api"
	"escutcheon/edwards"
	"escutcheon/sign"
	"escutcheon/wire"
)

func TestCheckHangsOnEachBit(t *testing.T) {
	for i := range int64(3) {
		seed, m := seedOf(i), some(int(i)*20+5)
		public, sig := sign.Public(seed), sign.Sign(seed, m)
		for bit := range 512 {
			other := sig
			turned(other[:], bit)
			checks(t, api.ErrAuth, public, other, m, "a bit of the signature, turned")
		}
		for bit := range 256 {
			other := public
			turned(other[:], bit)
			checks(t, api.ErrAuth, other, sig, m, "a bit of the public, turned")
		}
		for bit := range 8 * len(m) {
			other := slices.Clone(m)
			turned(other, bit)
			checks(t, api.ErrAuth, public, sig, other, "a bit of the message, turned")
		}
		checks(t, api.OK, public, sig, m, "as it was signed")
	}
}

func TestCheckOfOthers(t *testing.T) {
	all := seeds()
	m := some(50)
	for i, seed := range all {
		sig := sign.Sign(seed, m)
		r, s := parted(sig)
		for j, other := range all {
			want := api.ErrAuth
			if i == j {
				want = api.OK
			}
			checks(t, want, sign.Public(other), sig, m, "a signature, checked for each public")
			if i == j {
				continue
			}
			otherR, otherS := parted(sign.Sign(other, m))
			checks(t, api.ErrAuth, sign.Public(seed), joined(r, otherS), m, "another's s")
			checks(t, api.ErrAuth, sign.Public(seed), joined(otherR, s), m, "another's R")
		}
		for _, bad := range []api.Long{{}, {1}, joined(s, r), joined(r, r), joined(r, api.Key{}), joined(api.Key{}, s), joined(api.Key{1}, s)} {
			checks(t, api.ErrAuth, sign.Public(seed), bad, m, "no signature")
		}
		for _, other := range [][]byte{nil, m[:49], m[1:], append(slices.Clone(m), 0), append([]byte{0}, m...)} {
			checks(t, api.ErrAuth, sign.Public(seed), sig, other, "another message")
		}
		checks(t, api.ErrAuth, seed, sig, m, "the seed as the public")
	}
}

// Behind the same R, that many times L more say the same modulo L.
func TestSFromLOn(t *testing.T) {
	for i := range int64(20) {
		seed, m := seedOf(i), some(int(i))
		public, sig := sign.Public(seed), sign.Sign(seed, m)
		r, s := parted(sig)
		if numberOf(s[:]).Cmp(order) >= 0 {
			t.Errorf("s of %s is not below L", wire.Hex(sig[:]))
		}
		for n := plus(numberOf(s[:]), order); n.BitLen() <= 256; n = plus(n, order) {
			checks(t, api.ErrAuth, public, joined(r, key(n)), m, "s and so often L")
		}
	}
}

// For the public of nought every message is signed by s and R of so often the base: but for an s from L on.
func TestSAboutL(t *testing.T) {
	nought := api.Key{1}
	for k := int64(0); k <= 15; k++ {
		many := new(big.Int).Mul(order, big.NewInt(k))
		for over := int64(-2); over <= 2; over++ {
			n := plus(many, big.NewInt(over))
			if n.Sign() < 0 {
				continue
			}
			want := api.ErrAuth
			if n.Cmp(order) < 0 {
				want = api.OK
			}
			sig := joined(edwards.Base(key(n)).Bytes(), key(n))
			checks(t, want, nought, sig, some(int(k)), "an s about so often L")
			if got := library(nought, sig, some(int(k))); got != want {
				t.Errorf("s = %v: the library says %d", n, got)
			}
		}
	}
	for bits := 252; bits <= 256; bits++ {
		n := new(big.Int).Lsh(big.NewInt(1), uint(bits))
		for _, s := range []*big.Int{n, plus(n, big.NewInt(-1))} {
			if s.BitLen() > 256 {
				continue
			}
			want := api.ErrAuth
			if s.Cmp(order) < 0 {
				want = api.OK
			}
			checks(t, want, nought, joined(edwards.Base(key(s)).Bytes(), key(s)), nil, "an s about a power of 2")
		}
	}
}

func TestPublicsThatAreNoPointsBytes(t *testing.T) {
	m := some(20)
	sig := sign.Sign(seedOf(5), m)
	none := 0
	for y := range 100 {
		for _, top := range []byte{0, 128} {
			public := api.Key{byte(y), 31: top}
			if _, ok := edwards.Of(public); ok {
				continue
			}
			none++
			for _, s := range []api.Long{sig, {}, joined(api.Key{1}, api.Key{}), joined(public, api.Key{}), joined(edwards.Base(api.Key{7}).Bytes(), api.Key{7})} {
				checks(t, api.ErrAuth, public, s, m, "a public that is no point's bytes")
			}
		}
	}
	if none < 80 {
		t.Error("only", none, "publics are no point's bytes")
	}
}

// Bytes of which y is not canonical, or of which the bit is set where x is 0, are no point's, though they could be taken for one's: R and s are those that would check then.
func TestPublicsThatCouldBeTakenForAPoints(t *testing.T) {
	p := plus(new(big.Int).Lsh(big.NewInt(1), 255), big.NewInt(-19))
	bit := func(k api.Key) api.Key {
		k[31] |= 128
		return k
	}
	minusOne := key(plus(p, big.NewInt(-1)))
	publics := []api.Key{bit(api.Key{1}), bit(minusOne)}
	for k := range int64(19) {
		publics = append(publics, key(plus(p, big.NewInt(k))), bit(key(plus(p, big.NewInt(k)))))
	}
	points, _ := few(t)
	for _, public := range publics {
		if _, ok := edwards.Of(public); ok {
			t.Fatalf("%s: a point's bytes", wire.Hex(public[:]))
		}
		for n := range 5 {
			for _, low := range points {
				s := api.Key{byte(n)}
				r := edwards.Base(s).Add(pointOf(t, low)).Bytes()
				checks(t, api.ErrAuth, public, joined(r, s), some(n), "a public that is no point's bytes")
			}
		}
	}
}

// leaves holds Check for a public of a times the base and a point of small order, with each R that has some of that point in it: it is OK just where what h leaves of the point is what R has.
func leaves(t *testing.T, a *big.Int, low api.Key, often int64) {
	t.Helper()
	public := edwards.Base(key(a)).Add(pointOf(t, low)).Bytes()
	ok, bad := 0, 0
	for n := range 12 {
		m, r := some(n), hashed([]byte{byte(n)})
		for left := range often {
			point := edwards.Base(key(r)).Add(pointOf(t, low).Mul(api.Key{byte(left)})).Bytes()
			h := hashed(point[:], public[:], m)
			s := new(big.Int).Mod(plus(new(big.Int).Mul(h, a), r), order)
			want := api.ErrAuth
			if new(big.Int).Mod(plus(h, big.NewInt(left)), big.NewInt(often)).Sign() == 0 {
				want = api.OK
				ok++
			} else {
				bad++
			}
			sig := joined(point, key(s))
			checks(t, want, public, sig, m, "something of small order")
			if got := library(public, sig, m); got != want {
				t.Errorf("something of small order: the library says %d", got)
			}
		}
	}
	if ok == 0 || bad == 0 && often > 1 {
		t.Error("with a point of order", often, "it checks", ok, "times, and", bad, "times not")
	}
}

func TestPublicsOfSmallOrder(t *testing.T) {
	points, orders := few(t)
	for i, low := range points {
		leaves(t, new(big.Int), low, orders[i])
	}
}

// What is of small order in a public, or in R, must come out too: that both sides are the same eight times is not enough.
func TestPublicsWithSomethingOfSmallOrder(t *testing.T) {
	points, orders := few(t)
	for i, low := range points {
		leaves(t, hashed([]byte("a")), low, orders[i])
	}
}

// R has to be just the bytes of what comes out: not bytes that could be taken for that point's, nor bytes of none.
func TestRThatIsNoPointsBytes(t *testing.T) {
	seed, m := seedOf(6), some(33)
	_, s := parted(sign.Sign(seed, m))
	p := plus(new(big.Int).Lsh(big.NewInt(1), 255), big.NewInt(-19))
	var none []api.Key
	for k := range int64(256) {
		for _, r := range []api.Key{{byte(k)}, {byte(k), 31: 128}, key(plus(p, big.NewInt(k%19)))} {
			if _, ok := edwards.Of(r); !ok {
				none = append(none, r)
			}
		}
	}
	if len(none) < 400 {
		t.Error("only", len(none), "are no point's bytes")
	}
	for _, r := range none {
		checks(t, api.ErrAuth, sign.Public(seed), joined(r, s), m, "R that is no point's bytes")
		checks(t, api.ErrAuth, api.Key{1}, joined(r, api.Key{}), m, "R that is no point's bytes")
	}
	noughts := api.Key{1}
	checks(t, api.OK, noughts, joined(noughts, api.Key{}), m, "nought's R")
	checks(t, api.ErrAuth, noughts, joined(key(plus(p, big.NewInt(1))), api.Key{}), m, "nought's R, not canonical")
	checks(t, api.ErrAuth, noughts, joined(api.Key{1, 31: 128}, api.Key{}), m, "nought's R, the bit set")
}

// Behind R the one s checks that was signed; of others none does, whatever hash the message and the public make.
func TestAnotherSBehindTheSameR(t *testing.T) {
	points, orders := few(t)
	for i := range int64(6) {
		seed, m := seedOf(i), some(int(i)*9)
		r, s := parted(sign.Sign(seed, m))
		others(t, sign.Public(seed), r, numberOf(s[:]), m)
	}
	for i, public := range points {
		for n := range 2 {
			m := some(n)
			s := hashed([]byte{byte(i), byte(n)})
			for left := range orders[i] {
				r := edwards.Base(key(s)).Add(pointOf(t, public).Mul(api.Key{byte(left)})).Bytes()
				if sign.Check(public, joined(r, key(s)), m) == api.OK {
					others(t, public, r, s, m)
					break
				}
			}
		}
	}
}

// others are those beside s, beyond it by one bit, by so often L, the one that it comes to nought with, and any.
func others(t *testing.T, public, r api.Key, s *big.Int, m []byte) {
	t.Helper()
	checks(t, api.OK, public, joined(r, key(s)), m, "the s that was signed")
	all := []*big.Int{big.NewInt(0), big.NewInt(1), order, plus(order, big.NewInt(-1)), new(big.Int).Sub(order, s)}
	for k := int64(1); k < 10; k++ {
		all = append(all, plus(s, big.NewInt(k)), plus(s, big.NewInt(-k)), plus(s, new(big.Int).Mul(order, big.NewInt(k))), hashed([]byte{byte(k)}, s.Bytes()))
	}
	for bit := range 256 {
		other := key(s)
		turned(other[:], bit)
		all = append(all, numberOf(other[:]))
	}
	for _, n := range all {
		if n.Cmp(s) != 0 && n.Sign() >= 0 && n.BitLen() <= 256 {
			checks(t, api.ErrAuth, public, joined(r, key(n)), m, "another s behind the same R")
		}
	}
}
