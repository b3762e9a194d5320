package ladder_test

import (
	"math/big"
	"math/rand"
	"sync"
	"testing"

	"escutcheon/api"
	"escutcheon/ladder"
)

func checkShared(t *testing.T, secret, public, want api.Key, code api.Errno) {
	t.Helper()
	if got, err := ladder.Shared(secret, public); got != want || err != code {
		t.Errorf("Shared(%v, %v) = %v, %v, not %v, %v", secret, public, got, err, want, code)
	}
}

func TestSharedIsTheSecretTimesThePublic(t *testing.T) {
	ks := secrets()
	for i, x := range xs() {
		for _, k := range []api.Key{ks[i%len(ks)], ks[(7*i+3)%len(ks)]} {
			want, ok := ofLibrary(t, k, x)
			if !ok {
				t.Fatalf("%v has none", x)
			}
			checkShared(t, k, x, want, api.OK)
			checkShared(t, k, x, ladder.Mul(k, x), api.OK)
		}
	}
}

func TestSharedOfKnownSecrets(t *testing.T) {
	a := ofHex(t, "77076d0a7318a57d3c16c17251b26645df4c2f87ebc0992ab177fba51db92c2a")
	b := ofHex(t, "5dab087e624a8a4b79e17f8b83800ee66f3bb1292618b6fd1c2f8b27ff88e0eb")
	want := ofHex(t, "4a5d9d5ba4ce2de1728e3bf480350f25e07e21c947d19e3376f09b3c1e161742")
	checkShared(t, a, ladder.Public(b), want, api.OK)
	checkShared(t, b, ladder.Public(a), want, api.OK)
}

// What can only come to noughts is refused, whatever the secret, and however the point is told.
func TestSharedOfTheFewIsRefused(t *testing.T) {
	x := rand.New(rand.NewSource(9))
	for _, public := range fewKeys() {
		for _, secret := range append(secrets(), random(x), random(x)) {
			checkShared(t, secret, public, api.Key{}, api.ErrAuth)
			if _, ok := ofLibrary(t, secret, public); ok {
				t.Errorf("%v times %v is not noughts", secret, public)
			}
		}
	}
}

// Beside the few, nothing is refused.
func TestSharedBesideTheFew(t *testing.T) {
	k := random(rand.New(rand.NewSource(10)))
	for _, n := range few() {
		for d := int64(-20); d <= 20; d++ {
			for _, m := range []*big.Int{plusOf(n, d), new(big.Int).Add(plusOf(n, d), p), new(big.Int).Add(plusOf(n, d), power(255))} {
				if m.Sign() < 0 || m.Cmp(all) > 0 {
					continue
				}
				if _, err := ladder.Shared(k, key(m)); (err == api.ErrAuth) != isFew(key(m)) || err != api.OK && err != api.ErrAuth {
					t.Errorf("Shared of %v: %v", m, err)
				}
			}
		}
	}
}

func TestExamplesOfTheChapter(t *testing.T) {
	for _, secret := range secrets() {
		checkShared(t, secret, api.Key{}, api.Key{}, api.ErrAuth)
	}
	a, b := api.Key{1, 2, 3}, api.Key{4, 5, 6}
	one, errOne := ladder.Shared(a, ladder.Public(b))
	other, errOther := ladder.Shared(b, ladder.Public(a))
	if one != other || errOne != api.OK || errOther != api.OK || one == (api.Key{}) {
		t.Error(one, errOne, other, errOther)
	}
}

func TestTwoComeToOneSecret(t *testing.T) {
	ks := secrets()
	for i, a := range ks {
		for j := range 12 {
			b := ks[(i*5+j*7)%len(ks)]
			one, errOne := ladder.Shared(a, ladder.Public(b))
			other, errOther := ladder.Shared(b, ladder.Public(a))
			if one != other || errOne != api.OK || errOther != api.OK || one == (api.Key{}) {
				t.Errorf("%v and %v come to %v, %v and %v, %v", a, b, one, errOne, other, errOther)
			}
		}
	}
}

// The same of any point, on the curve or on its twist.
func TestMulDoesNotHangOnOrder(t *testing.T) {
	ks := secrets()
	for i, x := range append(xs(), fewKeys()...) {
		a, b := ks[i%len(ks)], ks[(3*i+1)%len(ks)]
		if ladder.Mul(a, ladder.Mul(b, x)) != ladder.Mul(b, ladder.Mul(a, x)) {
			t.Errorf("%v and %v times %v hang on their order", a, b, x)
		}
	}
}

// Secrets that are the same when they are clamped share all; others share nothing.
func TestAnotherSecretSharesSomethingElse(t *testing.T) {
	seen := map[api.Key]api.Key{}
	public := ladder.Public(api.Key{7})
	x := rand.New(rand.NewSource(11))
	for range 300 {
		k := random(x)
		shared, err := ladder.Shared(k, public)
		if before, ok := seen[shared]; ok || err != api.OK {
			t.Errorf("%v and %v come to %v, %v", before, k, shared, err)
		}
		seen[shared] = k
	}
}

func TestManyAtATime(t *testing.T) {
	points := xs()[:24]
	var workers sync.WaitGroup
	for range 8 {
		workers.Go(func() {
			for i, x := range points {
				k := api.Key{byte(i), 31: byte(3 * i)}
				want, _ := ofLibrary(t, k, x)
				if got, err := ladder.Shared(k, x); got != want || err != api.OK {
					t.Errorf("Shared(%v, %v) of many goroutines: %v, %v", k, x, got, err)
				}
			}
		})
	}
	workers.Wait()
}
