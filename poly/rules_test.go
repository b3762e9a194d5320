package poly_test

import (
	"bytes"
	"math/rand"
	"sync"
	"testing"

	"escutcheon/api"
	"escutcheon/poly"
)

func TestEqual(t *testing.T) {
	for _, a := range []mark{{}, mark(ones(size)), mark(some(size)), {0: 1}, {15: 128}} {
		b := a
		if !poly.Equal(a, b) || !poly.Equal(a, a) {
			t.Errorf("%v is not what it is", a)
		}
		for bit := range 8 * size {
			b := a
			b[bit/8] ^= 1 << (bit % 8)
			if poly.Equal(a, b) || poly.Equal(b, a) {
				t.Errorf("%v is the same, with the bit %d turned", a, bit)
			}
			for other := range bit {
				c := b
				c[other/8] ^= 1 << (other % 8)
				if poly.Equal(a, c) || poly.Equal(c, b) {
					t.Errorf("%v is the same, with the bits %d and %d turned", a, other, bit)
				}
			}
		}
	}
}

// Marks that have the same bytes in another order, or the same sum, are not the same.
func TestEqualHoldsByteForByte(t *testing.T) {
	a := mark(some(size))
	for i := range a {
		for j := range i {
			b := a
			b[i], b[j] = b[j], b[i]
			if poly.Equal(a, b) != (a[i] == a[j]) {
				t.Errorf("%v is the same, with the bytes %d and %d swapped", a, i, j)
			}
			c := a
			c[i], c[j] = c[i]+1, c[j]-1
			if poly.Equal(a, c) {
				t.Errorf("%v is the same, with one more at %d and one less at %d", a, i, j)
			}
		}
	}
}

// What is handed in is not changed, nor what has room behind it.
func TestArgumentsStay(t *testing.T) {
	for _, length := range []int{0, 1, 15, 16, 17, 40} {
		key, room := keyOf(20), some(100)
		parts := [][]byte{room[:length], room[length : 2*length], nil, room[50:60]}
		first := poly.Tag(key, parts...)
		if poly.Tag(key, parts...) != first {
			t.Errorf("Tag of %d bytes again is another one", length)
		}
		if !bytes.Equal(room, some(100)) || key != keyOf(20) {
			t.Errorf("Tag of %d bytes changed them, what is behind them, or the key", length)
		}
		for i, want := range []int{length, length, 0, 10} {
			if len(parts[i]) != want {
				t.Errorf("Tag of %d bytes changed the list of parts", length)
			}
		}
	}
}

// Marks that were answered stay, and no call keeps anything for the next one.
func TestCallsInAnyOrder(t *testing.T) {
	x := rand.New(rand.NewSource(5))
	given := map[int]mark{}
	for range 1000 {
		i := x.Intn(100)
		b := some(3 * i)
		got := poly.Tag(keyOf(i), b)
		clear(b)
		if before, ok := given[i]; ok && !poly.Equal(before, got) {
			t.Errorf("the text %d has another mark than before", i)
		}
		given[i] = got
		check(t, keys()[i%len(keys())], some(x.Intn(100)))
	}
}

func TestManyAtATime(t *testing.T) {
	key := keyOf(21)
	texts := make([][]byte, 60)
	wants := make([]mark, len(texts))
	for i := range texts {
		texts[i] = some(7 * i)
		wants[i] = wanted(key, texts[i])
	}
	var workers sync.WaitGroup
	for worker := range 8 {
		workers.Go(func() {
			for i := range texts {
				at := (i + 7*worker) % len(texts)
				if got := poly.Tag(key, texts[at][:at], texts[at][at:]); !poly.Equal(got, wants[at]) {
					t.Errorf("the text %d of many goroutines has another mark", at)
				}
			}
		})
	}
	workers.Wait()
}

// TestNoCallPanics gives all calls odd arguments: a panic ends the test.
func TestNoCallPanics(t *testing.T) {
	x := rand.New(rand.NewSource(6))
	odd := func(b []byte) {
		edge := [...]byte{0, 1, 127, 128, 254, 255}
		for i := range b {
			b[i] = edge[x.Intn(len(edge))]
		}
	}
	for range 2000 {
		var key api.Key
		odd(key[:])
		var parts [][]byte
		for range x.Intn(5) {
			b := make([]byte, x.Intn(60), 60+x.Intn(100))
			odd(b)
			parts = append(parts, b)
		}
		checkParts(t, key, parts)
	}
}
