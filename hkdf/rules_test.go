package hkdf_test

import (
	"bytes"
	"math/rand"
	"slices"
	"sync"
	"testing"

	"escutcheon/api"
	"escutcheon/hkdf"
)

// What is handed in is not changed, nor what has room behind it.
func TestArgumentsStay(t *testing.T) {
	for _, keyBytes := range []int{0, 1, 32, 63, 64, 65, 129} {
		for _, n := range []int{0, 1, 63, 64, 65, 128, 129, 300} {
			keys, room := some(300), some(400)
			key := keys[:keyBytes]
			parts := [][]byte{room[:n/2], nil, room[n/2 : n]}
			want := wanted(key, room[:n])
			if hkdf.Mac(key, parts...) != want || hkdf.Mac(key, parts...) != want {
				t.Errorf("another mac of %d bytes and a key of %d", n, keyBytes)
			}
			if !bytes.Equal(keys, some(300)) {
				t.Errorf("Mac changed a key of %d bytes, or what is behind it", keyBytes)
			}
			if !bytes.Equal(room, some(400)) {
				t.Errorf("Mac changed %d bytes, or what is behind them", n)
			}
			if len(parts) != 3 || !bytes.Equal(parts[0], room[:n/2]) || parts[1] != nil || !bytes.Equal(parts[2], room[n/2:n]) {
				t.Errorf("Mac of %d bytes changed the list of parts", n)
			}
		}
	}
}

// A list of parts may have room behind it, and parts that are another's.
func TestAListOfPartsStays(t *testing.T) {
	key := some(32)
	for shown := range 5 {
		list := [][]byte{some(70), some(10), some(64), some(3)}
		check(t, key, list[:shown]...)
		for i, n := range []int{70, 10, 64, 3} {
			if !bytes.Equal(list[i], some(n)) {
				t.Errorf("Mac of %d parts changed the part %d", shown, i)
			}
		}
	}
}

func TestBytesOfOutputsStay(t *testing.T) {
	for _, n := range []int{0, 1, 32, 63, 64, 65, 200} {
		c, room := keyOf(20), some(400)
		hkdf.Two(c, room[:n])
		hkdf.Three(c, room[:n])
		hkdf.Named(c, string(room[:n]))
		if !bytes.Equal(room, some(400)) {
			t.Errorf("%d bytes, or what is behind them, were changed", n)
		}
		if c != keyOf(20) {
			t.Error("the secret was changed")
		}
	}
}

// An answer stays what it is, whatever becomes of what was handed in, of another answer, or is asked next.
func TestAnswersStay(t *testing.T) {
	for _, n := range []int{0, 1, 64, 65, 300} {
		key, b, c := some(n), some(n), keyOf(21)
		mac, named := hkdf.Mac(key, b, b), hkdf.Named(c, string(b))
		one, two := hkdf.Two(c, b)
		first, second, third := hkdf.Three(c, b)
		clear(key)
		clear(b)
		clear(c[:])
		hkdf.Mac(key, b)
		hkdf.Named(c, string(b))
		hkdf.Two(c, b)
		other, another, last := hkdf.Three(c, b)
		other[0], another[0], last[0] = other[0]+1, another[0]+1, last[0]+1
		one[5]++
		if mac != wanted(some(n), slices.Concat(some(n), some(n))) || named != wanted(some(1021)[:32], some(n)) {
			t.Errorf("a mac of %d bytes changed", n)
		}
		if want := outputs(keyOf(21), some(n), 3); !slices.Equal(want, []api.Key{first, second, third}) || two != want[1] {
			t.Errorf("an output of %d bytes changed", n)
		}
		checkOutputs(t, keyOf(21), some(n), outputs(keyOf(21), some(n), 3))
	}
}

// One list may come many times, parts may share their bytes, and they may be the key's.
func TestWhatSharesItsBytes(t *testing.T) {
	b := some(200)
	check(t, b, b, b, b)
	check(t, b[:64], b[:150], b[50:], b[100:101], b[:64])
	check(t, b[10:42], b[10:42])
	c := keyOf(22)
	checkOutputs(t, c, c[:], outputs(keyOf(22), some(1022)[:32], 3))
}

// No call keeps anything for the next one.
func TestCallsInAnyOrder(t *testing.T) {
	x := rand.New(rand.NewSource(5))
	given := map[int][6]api.Key{}
	for range 2000 {
		i := x.Intn(100)
		var got [6]api.Key
		got[0] = hkdf.Mac(some(i), some(2*i), some(i))
		got[1], got[2] = hkdf.Two(keyOf(i), some(i))
		got[3], got[4], got[5] = hkdf.Three(keyOf(i), some(3*i))
		if before, is := given[i]; is && before != got {
			t.Errorf("what is asked %d-th has other answers than before", i)
		}
		given[i] = got
	}
}

func TestManyAtATime(t *testing.T) {
	const asked = 60
	var want [asked][]api.Key
	for i := range want {
		want[i] = append(outputs(keyOf(i), some(7*i), 3), wanted(some(3*i), some(7*i)))
	}
	var workers sync.WaitGroup
	for worker := range 8 {
		workers.Go(func() {
			for i := range asked {
				at := (i + 7*worker) % asked
				b := some(7 * at)
				first, second, third := hkdf.Three(keyOf(at), b)
				got := []api.Key{first, second, third, hkdf.Mac(some(3*at), b[:at], b[at:])}
				if !slices.Equal(got, want[at]) {
					t.Errorf("what is asked %d-th of many goroutines has other answers", at)
				}
			}
		})
	}
	workers.Wait()
}

// TestNoCallPanics gives Mac odd arguments: a panic ends the test.
func TestNoCallPanics(t *testing.T) {
	x := rand.New(rand.NewSource(6))
	odd := func(most int) []byte {
		n := x.Intn(most) - 5
		if n < 0 {
			return nil
		}
		b := make([]byte, n, n+x.Intn(200))
		x.Read(b)
		return b
	}
	for range 1000 {
		parts := make([][]byte, x.Intn(30))
		for i := range parts {
			parts[i] = odd(40)
		}
		check(t, odd(150), parts...)
	}
}
