package sha_test

import (
	"bytes"
	"math/rand"
	"sync"
	"testing"

	"escutcheon/api"
	"escutcheon/sha"
)

// What is handed in is not changed, nor what has room behind it.
func TestArgumentsStay(t *testing.T) {
	for _, n := range []int{0, 1, 100, 111, 112, 128, 200, 256, 500} {
		room := some(600)
		parts := [][]byte{room[:n/2], nil, room[n/2 : n]}
		want := sha.Sum(room[:n])
		if sha.Sum(parts...) != want || sha.Sum(parts...) != want {
			t.Errorf("another hash of %d bytes", n)
		}
		if !bytes.Equal(room, some(600)) {
			t.Errorf("Sum of %d bytes changed them, or what is behind them", n)
		}
		if len(parts) != 3 || !bytes.Equal(parts[0], room[:n/2]) || parts[1] != nil || !bytes.Equal(parts[2], room[n/2:n]) {
			t.Errorf("Sum of %d bytes changed the list of parts", n)
		}
	}
}

// A hash stays what it is, whatever becomes of the message, or is hashed next.
func TestAnswersStay(t *testing.T) {
	b := some(300)
	got := sha.Sum(b, b)
	before := got
	clear(b)
	sha.Sum(b)
	if got != before || got != sha.Sum(some(300), some(300)) {
		t.Error("a hash changed with its message")
	}
	got[0] ^= 1
	if sha.Sum(some(300), some(300)) != before {
		t.Error("a hash that was changed is answered again")
	}
}

// One part may come many times, and parts may share their bytes.
func TestPartsThatShare(t *testing.T) {
	b := some(200)
	checkSum(t, b, b, b)
	checkSum(t, b[:150], b[50:], b[100:101], b)
}

func TestManyAtATime(t *testing.T) {
	messages := make([][]byte, 60)
	hashes := make([]api.Long, len(messages))
	for i := range messages {
		messages[i] = some(7 * i)
		hashes[i] = sha.Sum(messages[i])
	}
	var workers sync.WaitGroup
	for worker := range 8 {
		workers.Go(func() {
			for i := range messages {
				at := (i + 7*worker) % len(messages)
				if sha.Sum(messages[at][:at], messages[at][at:]) != hashes[at] {
					t.Errorf("message %d of many goroutines has another hash", at)
				}
				if sha.Start(at%8) == 0 || sha.Constant(at) == 0 {
					t.Errorf("word %d of many goroutines is none", at)
				}
			}
		})
	}
	workers.Wait()
}

// TestNoCallPanics gives all calls odd arguments: a panic ends the test.
func TestNoCallPanics(t *testing.T) {
	x := rand.New(rand.NewSource(2))
	for range 3000 {
		i := int(x.Uint64()) >> x.Intn(64)
		if word := sha.Start(i); word != 0 && (i < 0 || i > 7) {
			t.Errorf("Start(%d) = %x", i, word)
		}
		if word := sha.Constant(i); word != 0 && (i < 0 || i > 79) {
			t.Errorf("Constant(%d) = %x", i, word)
		}
	}
	for range 500 {
		parts := make([][]byte, x.Intn(30))
		for i := range parts {
			if n := x.Intn(40) - 5; n >= 0 {
				parts[i] = make([]byte, n, n+x.Intn(200))
			}
		}
		checkSum(t, parts...)
	}
}
