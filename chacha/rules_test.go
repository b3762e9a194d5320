package chacha_test

import (
	"bytes"
	"math/rand"
	"sync"
	"testing"

	"escutcheon/api"
	"escutcheon/chacha"
)

// What is handed in is not changed, nor what has room behind it.
func TestArgumentsStay(t *testing.T) {
	for _, length := range []int{0, 1, size - 1, size, size + 1, 2 * size, 300} {
		key, n, room := keyOf(10), nonceOf(10), some(400)
		first := chacha.Xor(key, 1, n, room[:length])
		if !bytes.Equal(chacha.Xor(key, 1, n, room[:length]), first) {
			t.Errorf("Xor of %d bytes again is another one", length)
		}
		if !bytes.Equal(room, some(400)) {
			t.Errorf("Xor of %d bytes changed them, or what is behind them", length)
		}
		if key != keyOf(10) || n != nonceOf(10) {
			t.Errorf("Xor of %d bytes changed its key, or its nonce", length)
		}
	}
}

// What is answered is the caller's: it shares nothing with what was handed in, nor with another answer.
func TestAnswersStay(t *testing.T) {
	for _, length := range []int{1, size, size + 1, 200} {
		key, n, b := keyOf(11), nonceOf(11), some(length)
		got, other := chacha.Xor(key, 5, n, b), chacha.Xor(key, 5, n, b)
		want := bytes.Clone(got)
		clear(b)
		clear(other)
		_ = append(other, some(100)...)
		chacha.Xor(key, 6, n, b)
		if !bytes.Equal(got, want) {
			t.Errorf("what was answered of %d bytes changed", length)
		}
		clear(got)
		_ = append(got, some(100)...)
		if !bytes.Equal(b, make([]byte, length)) || !bytes.Equal(chacha.Xor(key, 5, n, some(length)), want) {
			t.Errorf("what was answered of %d bytes, and changed, is seen elsewhere", length)
		}
	}
	block := chacha.Block(api.Key{}, 0, nonce{})
	before := block
	block[0] ^= 1
	if chacha.Block(api.Key{}, 0, nonce{}) != before {
		t.Error("a block that was changed is answered again")
	}
}

// No call keeps anything for the next one.
func TestCallsInAnyOrder(t *testing.T) {
	x := rand.New(rand.NewSource(3))
	for range 500 {
		i, j := x.Intn(len(keys())), x.Intn(len(nonces()))
		counter := counters()[x.Intn(len(counters()))]
		if x.Intn(2) == 0 {
			checkBlock(t, keys()[i], counter, nonces()[j])
		} else {
			checkXor(t, keys()[i], counter, nonces()[j], some(x.Intn(200)))
		}
	}
}

func TestManyAtATime(t *testing.T) {
	key, n := keyOf(12), nonceOf(12)
	texts := make([][]byte, 60)
	wants := make([][]byte, len(texts))
	for i := range texts {
		texts[i] = some(7 * i)
		wants[i] = chacha.Xor(key, uint32(i), n, texts[i])
	}
	var workers sync.WaitGroup
	for worker := range 8 {
		workers.Go(func() {
			for i := range texts {
				at := (i + 7*worker) % len(texts)
				if !bytes.Equal(chacha.Xor(key, uint32(at), n, texts[at]), wants[at]) {
					t.Errorf("the text %d of many goroutines is another one", at)
				}
				checkBlock(t, key, uint32(at), n)
			}
		})
	}
	workers.Wait()
}

// TestNoCallPanics gives all calls odd arguments: a panic ends the test.
func TestNoCallPanics(t *testing.T) {
	x := rand.New(rand.NewSource(4))
	odd := func(b []byte) {
		edge := [...]byte{0, 1, 127, 128, 254, 255}
		for i := range b {
			b[i] = edge[x.Intn(len(edge))]
		}
	}
	for range 1000 {
		var key api.Key
		var n nonce
		odd(key[:])
		odd(n[:])
		counter := x.Uint32()>>x.Intn(32) - uint32(x.Intn(3))
		b := make([]byte, x.Intn(3*size), 3*size+x.Intn(100))
		odd(b)
		checkBlock(t, key, counter, n)
		checkXor(t, key, counter, n, b)
	}
}
