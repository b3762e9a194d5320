package poly_test

import (
	"math/rand"
	"slices"
	"testing"

	"escutcheon/api"
	"escutcheon/poly"
)

func checkParts(t *testing.T, key api.Key, parts [][]byte) {
	t.Helper()
	if got, want := poly.Tag(key, parts...), wanted(key, slices.Concat(parts...)); got != want {
		t.Errorf("the mark of the parts %v is %v, not %v", parts, got, want)
	}
}

// Cut in two and in three, at a piece's end and elsewhere, or with nothing on one side.
func TestCuts(t *testing.T) {
	key := keyOf(10)
	for _, length := range []int{1, 15, 16, 17, 31, 32, 33, 53} {
		b := some(length)
		for i := range length + 1 {
			checkParts(t, key, [][]byte{b[:i], b[i:]})
			for j := i; j <= length; j++ {
				checkParts(t, key, [][]byte{b[:i], b[i:j], b[j:]})
			}
		}
	}
}

func TestPartsOfOneSize(t *testing.T) {
	for _, key := range keys() {
		b := some(5*size + 3)
		for part := 1; part <= len(b); part++ {
			checkParts(t, key, slices.Collect(slices.Chunk(b, part)))
		}
	}
}

func TestEmptyParts(t *testing.T) {
	key := keyOf(11)
	for _, length := range []int{0, 1, 16, 17, 40} {
		b := some(length)
		checkParts(t, key, [][]byte{nil, b})
		checkParts(t, key, [][]byte{b, {}})
		checkParts(t, key, [][]byte{{}, nil, b, nil, {}})
		parts := [][]byte{nil}
		for i := range b {
			parts = append(parts, b[i:i+1], nil, []byte{})
		}
		checkParts(t, key, parts)
	}
}

func TestPartsOfAnySize(t *testing.T) {
	x := rand.New(rand.NewSource(4))
	for range 2000 {
		key := keyOf(x.Intn(50))
		var parts [][]byte
		for range x.Intn(8) {
			b := make([]byte, x.Intn(40))
			x.Read(b)
			parts = append(parts, b)
		}
		checkParts(t, key, parts)
	}
}

// A part is not a piece: shorter ones are not filled up, and have no byte behind them, but the last.
func TestPartsAreNotPieces(t *testing.T) {
	key := keyOf(12)
	a, b := some(5), some(7)
	whole := poly.Tag(key, a, b)
	for _, other := range [][][]byte{{b, a}, {a, make([]byte, size-5), b}, {a, {1}, b}, {a}, {b}, {a, b, {0}}} {
		if poly.Tag(key, other...) == whole {
			t.Errorf("%v has the mark of %v and %v", other, a, b)
		}
	}
}
