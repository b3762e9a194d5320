package sha_test

import (
	"math"
	"math/big"
	"testing"

	"escutcheon/sha"
)

// primes are found here by the library, and so is whether a word is a root's.
func primes(count int) []*big.Int {
	var all []*big.Int
	for n := int64(2); len(all) < count; n++ {
		if p := big.NewInt(n); p.ProbablyPrime(10) {
			all = append(all, p)
		}
	}
	return all
}

func power(n *big.Int, k int64) *big.Int {
	return new(big.Int).Exp(n, big.NewInt(k), nil)
}

// isFraction asks whether a word is the first one behind the point of n's k-th root: of just one whole part, n times 2^(64 k) is between the powers of both together, and of one more.
func isFraction(word uint64, n *big.Int, k int64) bool {
	wanted := new(big.Int).Lsh(n, uint(64*k))
	for whole := int64(0); whole < 25; whole++ {
		root := new(big.Int).Lsh(big.NewInt(whole), 64)
		root.Add(root, new(big.Int).SetUint64(word))
		next := new(big.Int).Add(root, big.NewInt(1))
		if power(root, k).Cmp(wanted) <= 0 && power(next, k).Cmp(wanted) > 0 {
			return true
		}
	}
	return false
}

func TestStartsAreOfSquareRoots(t *testing.T) {
	for i, p := range primes(8) {
		word := sha.Start(i)
		if !isFraction(word, p, 2) {
			t.Errorf("Start(%d) = %x is not of the square root of %v", i, word, p)
		}
		if other := new(big.Int).Sqrt(new(big.Int).Lsh(p, 128)).Uint64(); word != other {
			t.Errorf("Start(%d) = %x, not %x", i, word, other)
		}
		if isFraction(word+1, p, 2) || isFraction(word-1, p, 2) {
			t.Errorf("a word beside Start(%d) is taken for one", i)
		}
	}
}

func TestConstantsAreOfCubeRoots(t *testing.T) {
	for i, p := range primes(80) {
		word := sha.Constant(i)
		if !isFraction(word, p, 3) {
			t.Errorf("Constant(%d) = %x is not of the cube root of %v", i, word, p)
		}
		if isFraction(word+1, p, 3) || isFraction(word-1, p, 3) {
			t.Errorf("a word beside Constant(%d) is taken for one", i)
		}
	}
}

// The words as FIPS 180-4 prints them.
func TestStartsAsPrinted(t *testing.T) {
	for i, want := range []uint64{
		0x6a09e667f3bcc908, 0xbb67ae8584caa73b, 0x3c6ef372fe94f82b, 0xa54ff53a5f1d36f1,
		0x510e527fade682d1, 0x9b05688c2b3e6c1f, 0x1f83d9abfb41bd6b, 0x5be0cd19137e2179,
	} {
		if got := sha.Start(i); got != want {
			t.Errorf("Start(%d) = %x, not %x", i, got, want)
		}
	}
}

func TestConstantsAsPrinted(t *testing.T) {
	for i, want := range map[int]uint64{
		0: 0x428a2f98d728ae22, 1: 0x7137449123ef65cd, 2: 0xb5c0fbcfec4d3b2f, 3: 0xe9b5dba58189dbbc,
		7: 0xab1c5ed5da6d8118, 8: 0xd807aa98a3030242, 15: 0xc19bf174cf692694, 16: 0xe49b69c19ef14ad2,
		39: 0x92722c851482353b, 63: 0xc67178f2e372532b, 64: 0xca273eceea26619c, 78: 0x5fcb6fab3ad6faec,
		79: 0x6c44198c4a475817,
	} {
		if got := sha.Constant(i); got != want {
			t.Errorf("Constant(%d) = %x, not %x", i, got, want)
		}
	}
}

func TestThereIsNoOther(t *testing.T) {
	odd := []int{math.MinInt, math.MinInt + 1, math.MinInt32, -80, -9, -8, -2, -1, 255, 256, 1 << 16, math.MaxInt32, math.MaxInt - 1, math.MaxInt}
	for i := 8; i < 200; i++ {
		odd = append(odd, i)
	}
	for _, i := range odd {
		if word := sha.Start(i); word != 0 {
			t.Errorf("Start(%d) = %x", i, word)
		}
		if word := sha.Constant(i); (word != 0) != (i >= 0 && i < 80) {
			t.Errorf("Constant(%d) = %x", i, word)
		}
	}
	for i := range 80 {
		if sha.Constant(i) == 0 || i < 8 && sha.Start(i) == 0 {
			t.Errorf("the word %d is none", i)
		}
	}
}

func TestWordsAreAskedInAnyOrder(t *testing.T) {
	var up, down [80]uint64
	for i := range 80 {
		up[i] = sha.Constant(i) ^ sha.Start(i)
	}
	for i := range 80 {
		down[79-i] = sha.Start(79-i) ^ sha.Constant(79-i)
	}
	if up != down {
		t.Error("other words in another order")
	}
}
