package aead_test

import (
	"bytes"
	"math/rand"
	"sync"
	"testing"

	"escutcheon/aead"
	"escutcheon/api"
)

// What is handed in is not changed, nor what has room behind it.
func TestArgumentsStay(t *testing.T) {
	for _, ad := range []int{0, 1, 15, 16, 17, 40} {
		for _, length := range []int{0, 1, 15, 16, 17, 63, 64, 65, 200} {
			key, n := keyOf(20), nonceOf(20)
			beside, room := some(100), some(400)
			sealed := aead.Seal(key, n, beside[:ad], room[:length])
			if !bytes.Equal(beside, some(100)) || !bytes.Equal(room, some(400)) {
				t.Errorf("Seal of %d bytes beside %d changed them, or what is behind them", length, ad)
			}
			whole := append(bytes.Clone(sealed), some(100)...)
			for range 2 {
				if got, err := aead.Open(key, n, beside[:ad], whole[:len(sealed)]); err != api.OK || !bytes.Equal(got, room[:length]) {
					t.Errorf("Open of %d bytes beside %d is %d bytes, %d", len(sealed), ad, len(got), err)
				}
			}
			refused(t, key, n, beside[:ad+1], whole[:len(sealed)], "another ad")
			if !bytes.Equal(beside, some(100)) || !bytes.Equal(whole, append(sealed, some(100)...)) {
				t.Errorf("Open of %d bytes beside %d changed them, or what is behind them", len(sealed), ad)
			}
			if key != keyOf(20) || n != nonceOf(20) {
				t.Error("the key, or the nonce, was changed")
			}
		}
	}
}

// The ad and the bytes may be pieces of one list.
func TestArgumentsOfOneList(t *testing.T) {
	key, n := keyOf(21), nonceOf(21)
	for _, cut := range []int{0, 1, 15, 16, 17, 50} {
		for _, end := range []int{0, 1, 16, 33, 50} {
			all := some(50)
			sealed := aead.Seal(key, n, all[:end], all[cut:])
			if !bytes.Equal(sealed, wanted(key, n, some(50)[:end], some(50)[cut:])) || !bytes.Equal(all, some(50)) {
				t.Errorf("of one list: the bytes from %d on beside an ad up to %d are others", cut, end)
			}
			whole := append(bytes.Clone(all[:end]), sealed...)
			got, err := aead.Open(key, n, whole[:end], whole[end:])
			if err != api.OK || !bytes.Equal(got, all[cut:]) || !bytes.Equal(whole[end:], sealed) {
				t.Errorf("of one list: what is sealed behind an ad of %d is opened to %d bytes, %d", end, len(got), err)
			}
		}
	}
}

// What is answered is the caller's: it shares nothing with what was handed in, nor with another answer.
func TestAnswersStay(t *testing.T) {
	for _, length := range []int{0, 1, 16, 64, 65, 200} {
		key, n, ad, plain := keyOf(22), nonceOf(22), some(30), some(length)
		sealed, other := aead.Seal(key, n, ad, plain), aead.Seal(key, n, ad, plain)
		want := bytes.Clone(sealed)
		clear(ad)
		clear(plain)
		clear(other)
		_ = append(other, some(100)...)
		if !bytes.Equal(sealed, want) {
			t.Errorf("what was sealed of %d bytes changed", length)
		}
		opened, err := aead.Open(key, n, some(30), sealed)
		again, _ := aead.Open(key, n, some(30), sealed)
		clear(sealed)
		clear(again)
		_ = append(again, some(100)...)
		if err != api.OK || !bytes.Equal(opened, some(length)) {
			t.Errorf("what was opened of %d bytes changed", length)
		}
		sealed = bytes.Clone(want)
		opened, _ = aead.Open(key, n, some(30), sealed)
		clear(opened)
		_ = append(opened, some(100)...)
		if !bytes.Equal(sealed, want) {
			t.Errorf("what was opened of %d bytes, and changed, is seen in what is sealed", length)
		}
	}
}

func TestNilAndEmpty(t *testing.T) {
	key, n := keyOf(23), nonceOf(23)
	none := [][]byte{nil, {}, make([]byte, 0, 100), some(50)[50:], some(50)[:0]}
	mark := aead.Seal(key, n, nil, nil)
	text, beside := aead.Seal(key, n, nil, some(20)), aead.Seal(key, n, some(20), nil)
	for _, ad := range none {
		check(t, key, n, ad, some(20), text)
		for _, plain := range none {
			check(t, key, n, ad, plain, mark)
			check(t, key, n, some(20), plain, beside)
			refused(t, key, n, ad, plain, "no bytes")
		}
	}
}

// No call keeps anything for the next one.
func TestCallsInAnyOrder(t *testing.T) {
	x := rand.New(rand.NewSource(5))
	given := map[int][]byte{}
	for range 1000 {
		i := x.Intn(60)
		key, n, ad, plain := keyOf(i), aead.Nonce(uint64(i)), some(i), some(2*i)
		got := aead.Seal(key, n, ad, plain)
		if before, ok := given[i]; ok && !bytes.Equal(before, got) {
			t.Errorf("the text %d is sealed in another way than before", i)
		}
		given[i] = got
		check(t, key, n, ad, plain, got)
		refused(t, key, aead.Nonce(uint64(i+1)), ad, got, "another nonce")
		check(t, key, n, ad, plain, got)
	}
}

func TestManyAtATime(t *testing.T) {
	key := keyOf(24)
	texts := make([][]byte, 60)
	wants := make([][]byte, len(texts))
	for i := range texts {
		texts[i] = some(7 * i)
		wants[i] = wanted(key, aead.Nonce(uint64(i)), texts[i][:i], texts[i])
	}
	var workers sync.WaitGroup
	for worker := range 8 {
		workers.Go(func() {
			for i := range texts {
				at := (i + 7*worker) % len(texts)
				check(t, key, aead.Nonce(uint64(at)), texts[at][:at], texts[at], wants[at])
			}
		})
	}
	workers.Wait()
}

// TestNoCallPanics gives all calls odd arguments: a panic ends the test.
func TestNoCallPanics(t *testing.T) {
	x := rand.New(rand.NewSource(6))
	odd := func(b []byte) []byte {
		edge := [...]byte{0, 1, 127, 128, 254, 255}
		for i := range b {
			b[i] = edge[x.Intn(len(edge))]
		}
		return b
	}
	for range 2000 {
		var key api.Key
		var n nonce
		odd(key[:])
		odd(n[:])
		ad, b := odd(make([]byte, x.Intn(40), 40+x.Intn(100))), odd(make([]byte, x.Intn(90), 90+x.Intn(100)))
		check(t, key, n, ad, b, wanted(key, n, ad, b))
		refused(t, key, n, ad, b, "odd bytes")
		aead.Nonce(x.Uint64()>>x.Intn(64) - uint64(x.Intn(3)))
	}
}
