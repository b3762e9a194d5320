package ladder_test

import (
	"crypto/ecdh"
	"math/big"
	"math/rand"
	"testing"

	"escutcheon/api"
	"escutcheon/ladder"
	"escutcheon/wire"
)

func ofHex(t *testing.T, text string) api.Key {
	t.Helper()
	b, err := wire.OfHex(text)
	if err != api.OK || len(b) != 32 {
		t.Fatalf("%q is not 32 bytes", text)
	}
	return api.Key(b)
}

func checkMul(t *testing.T, k, x, want api.Key) {
	t.Helper()
	if got := ladder.Mul(k, x); got != want {
		t.Errorf("Mul(%s, %s) = %s, not %s", wire.Hex(k[:]), wire.Hex(x[:]), wire.Hex(got[:]), wire.Hex(want[:]))
	}
}

// The examples that RFC 7748 tells of the same curve, with its own names of the bytes.
func TestMulOfKnownNumbers(t *testing.T) {
	for _, x := range []struct{ k, x, want string }{
		{"a546e36bf0527c9d3b16154b82465edd62144c0ac1fc5a18506a2244ba449ac4", "e6db6867583030db3594c1a424b15f7c726624ec26b3353b10a903a6d0ab1c4c", "c3da55379de9c6908e94ea4df28d084f32eccf03491c71f754b4075577a28552"},
		{"4b66e9d4d1b4673c5ad22691957d6af5c11b6421e0ea01d42ca4169e7918ba0d", "e5210f12786811d3f4b7959d0538ae2c31dbe7106fc03c3efc4cd549c715a493", "95cbde9476e8907d7aade45cb4b873f88b595a68799fa152e6f8f7647aac7957"},
	} {
		checkMul(t, ofHex(t, x.k), ofHex(t, x.x), ofHex(t, x.want))
	}
}

func TestMulUponMul(t *testing.T) {
	k, x := api.Key{9}, api.Key{9}
	for i := range 1000 {
		k, x = ladder.Mul(k, x), k
		if i == 0 && k != ofHex(t, "422c8e7a6227d7bca1350b3e2bb7279f7897b87bb6854b783c60e80311ae3079") {
			t.Error("after one:", wire.Hex(k[:]))
		}
	}
	if k != ofHex(t, "684cf59ba83309552800ef566f2f4d3c1c3887c49360e3875f2eb94d99532c51") {
		t.Error("after 1000:", wire.Hex(k[:]))
	}
}

func TestMulIsAddedUpOnTheCurveAndItsTwist(t *testing.T) {
	ks, points := secrets(), xs()
	for i, x := range points {
		k := ks[i%len(ks)]
		checkMul(t, k, x, multiple(k, x))
	}
	for i, k := range ks { // every secret with one of the curve and with one of the twist
		checkMul(t, k, api.Key{9}, multiple(k, api.Key{9}))
		checkMul(t, k, api.Key{2}, multiple(k, api.Key{2}))
		checkMul(t, k, points[len(points)-1-i%30], multiple(k, points[len(points)-1-i%30]))
	}
}

// ofLibrary is what the language's own library answers: nothing where it comes to noughts.
func ofLibrary(t *testing.T, k, x api.Key) (api.Key, bool) {
	t.Helper()
	secret, err := ecdh.X25519().NewPrivateKey(k[:])
	if err != nil {
		t.Fatal(err)
	}
	public, err := ecdh.X25519().NewPublicKey(x[:])
	if err != nil {
		t.Fatal(err)
	}
	shared, err := secret.ECDH(public)
	if err != nil {
		return api.Key{}, false
	}
	return api.Key(shared), true
}

func TestMulIsAsTheLibraryHasIt(t *testing.T) {
	for i, k := range secrets() {
		for j, x := range append(xs(), fewKeys()...) {
			if (i+j)%4 == 0 { // all of them would take long
				want, _ := ofLibrary(t, k, x)
				checkMul(t, k, x, want)
			}
		}
	}
	y := rand.New(rand.NewSource(3))
	for range 500 {
		k, x := random(y), random(y)
		want, _ := ofLibrary(t, k, x)
		checkMul(t, k, x, want)
	}
}

// So many times the point is nought or the point itself, before the last bits of k are gone over.
func TestMulThroughNought(t *testing.T) {
	for _, on := range []struct {
		order *big.Int
		x     api.Key
	}{{prime, api.Key{9}}, {twistPrime, key(pointOf(two).times(big.NewInt(4)).x)}} {
		a := pointOf(number(on.x))
		if a.times(on.order).x != nil {
			t.Fatalf("%v is not of the prime order", on.x)
		}
		for k := int64(-1); k <= 1; k += 2 {
			checkMul(t, key(times(plusOf(on.order, k), 4)), on.x, key(a.times(big.NewInt(4)).x))
		}
	}
}

// The groups have 8 and 4 times a prime number of points: so many there are, no more, whose eightfold is nought.
func TestTheFewAreAllThereAre(t *testing.T) {
	curve, twist := 1, 1 // nought
	for _, n := range few() {
		a := pointOf(n)
		if a.times(big.NewInt(8)).x != nil {
			t.Errorf("8 times %v is not nought", n)
		}
		switch {
		case a.y.Sign() == 0: // on both, and its own other half
			curve, twist = curve+1, twist+1
		case a.by == two:
			twist += 2
		default:
			curve += 2
		}
	}
	if curve != 8 || twist != 4 || !prime.ProbablyPrime(20) || !twistPrime.ProbablyPrime(20) || times(twistPrime, 4).Cmp(twistOrder) != 0 {
		t.Error(curve, "and", twist, "points are not all")
	}
	if len(fewKeys()) != 14 {
		t.Error("0 and 1 are said by four bytes each, the others by two")
	}
}

func TestMulOfTheFewIs0(t *testing.T) {
	for _, x := range fewKeys() {
		for _, k := range secrets() {
			checkMul(t, k, x, api.Key{})
		}
	}
}

func TestMulOfNothingElseIs0(t *testing.T) {
	for _, x := range xs() {
		for _, k := range secrets()[:12] {
			if ladder.Mul(k, x) == (api.Key{}) {
				t.Errorf("Mul(%v, %v) is 0", k, x)
			}
		}
	}
}

func TestTheHighestBitOfXIsNotLookedAt(t *testing.T) {
	k := clamped(random(rand.New(rand.NewSource(4))))
	for _, x := range append(xs(), fewKeys()...) {
		y := x
		y[31] ^= 128
		if ladder.Mul(k, x) != ladder.Mul(k, y) {
			t.Errorf("Mul of %v hangs on the highest bit", x)
		}
	}
}

func TestNumbersFromPOn(t *testing.T) {
	k := clamped(random(rand.New(rand.NewSource(5))))
	for n := range int64(19) {
		for _, high := range []*big.Int{zero, power(255)} {
			x := key(new(big.Int).Add(high, plusOf(p, n)))
			checkMul(t, k, x, ladder.Mul(k, api.Key{byte(n)}))
		}
	}
}

func TestMulHangsOnEachBitOfKButThoseThatAreClamped(t *testing.T) {
	for _, k := range []api.Key{{}, key(all), random(rand.New(rand.NewSource(6)))} {
		for _, x := range []api.Key{{9}, {2}} {
			want := ladder.Mul(k, x)
			if ladder.Mul(clamped(k), x) != want {
				t.Errorf("Mul of %v is not that of it clamped", k)
			}
			for bit := range 256 {
				turned := k
				turned[bit/8] ^= 1 << (bit % 8)
				none := bit < 3 || bit > 253
				if same := ladder.Mul(turned, x) == want; same != none {
					t.Errorf("bit %d of %v: turned, the same is %t", bit, k, same)
				}
			}
		}
	}
}

func TestMulHangsOnEachBitOfX(t *testing.T) {
	k := random(rand.New(rand.NewSource(7)))
	for _, x := range []api.Key{{9}, random(rand.New(rand.NewSource(8)))} {
		for bit := range 255 {
			turned := x
			turned[bit/8] ^= 1 << (bit % 8)
			if ladder.Mul(k, turned) == ladder.Mul(k, x) {
				t.Errorf("bit %d of %v: turned, it is the same", bit, x)
			}
		}
	}
}

func TestPublic(t *testing.T) {
	for _, k := range secrets() {
		got := ladder.Public(k)
		if got != ladder.Mul(k, api.Key{9}) || got != multiple(k, api.Key{9}) || got == (api.Key{}) {
			t.Errorf("Public(%v) = %v", k, got)
		}
		secret, err := ecdh.X25519().NewPrivateKey(k[:])
		if err != nil || api.Key(secret.PublicKey().Bytes()) != got {
			t.Errorf("Public(%v) = %v", k, got)
		}
	}
	for secret, public := range map[string]string{
		"77076d0a7318a57d3c16c17251b26645df4c2f87ebc0992ab177fba51db92c2a": "8520f0098930a754748b7ddcb43ef75a0dbf3a0d26381af4eba4a98eaa9b4e6a",
		"5dab087e624a8a4b79e17f8b83800ee66f3bb1292618b6fd1c2f8b27ff88e0eb": "de9edb7d7b7dc1b4d35b61c2ece435373f8343c85b78674dadfc7e146f882b4f",
	} {
		if ladder.Public(ofHex(t, secret)) != ofHex(t, public) {
			t.Errorf("Public(%s) is not %s", secret, public)
		}
	}
}
