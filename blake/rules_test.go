package blake_test

import (
	"bytes"
	"math/rand"
	"sync"
	"testing"

	"escutcheon/api"
	"escutcheon/blake"
)

// What is handed in is not changed, nor what has room behind it.
func TestArgumentsStay(t *testing.T) {
	for _, n := range []int{0, 1, 63, 64, 65, 100, 127, 128, 129, 300} {
		room := some(400)
		parts := [][]byte{room[:n/2], nil, room[n/2 : n]}
		want := blake.Sum(room[:n])
		if blake.Sum(parts...) != want || blake.Sum(parts...) != want {
			t.Errorf("another hash of %d bytes", n)
		}
		if !bytes.Equal(room, some(400)) {
			t.Errorf("Sum of %d bytes changed them, or what is behind them", n)
		}
		if len(parts) != 3 || !bytes.Equal(parts[0], room[:n/2]) || parts[1] != nil || !bytes.Equal(parts[2], room[n/2:n]) {
			t.Errorf("Sum of %d bytes changed the list of parts", n)
		}
	}
	list := [][]byte{some(70), some(10), some(64), some(3)}
	blake.Sum(list[:2]...)
	if !bytes.Equal(list[2], some(64)) || !bytes.Equal(list[3], some(3)) {
		t.Error("Sum changed what is behind the list of parts")
	}
}

// A hash stays what it is, whatever becomes of the message, or is hashed next.
func TestAnswersStay(t *testing.T) {
	for _, n := range []int{0, 1, 64, 300} {
		b := some(n)
		got := blake.Sum(b, b)
		before := got
		clear(b)
		blake.Sum(b)
		blake.Sum(some(500))
		if got != before || got != blake.Sum(some(n), some(n)) {
			t.Errorf("a hash of twice %d bytes changed with its message", n)
		}
		got[0] ^= 1
		if blake.Sum(some(n), some(n)) != before {
			t.Errorf("a hash of twice %d bytes that was changed is answered again", n)
		}
	}
}

// One part may come many times, and parts may share their bytes.
func TestPartsThatShare(t *testing.T) {
	r, b := newReference(), some(200)
	check(t, r, b, b, b)
	check(t, r, b[:150], b[50:], b[100:101], b)
}

// No call keeps anything for the next one.
func TestCallsInAnyOrder(t *testing.T) {
	x := rand.New(rand.NewSource(5))
	given := map[int]api.Key{}
	for range 2000 {
		i := x.Intn(100)
		got := blake.Sum(some(3*i), some(i))
		if before, is := given[i]; is && before != got {
			t.Errorf("the message %d has another hash than before", i)
		}
		given[i] = got
	}
}

func TestManyAtATime(t *testing.T) {
	messages := make([][]byte, 60)
	hashes := make([]api.Key, len(messages))
	for i := range messages {
		messages[i] = some(7 * i)
		hashes[i] = newReference().sum(messages[i])
	}
	var workers sync.WaitGroup
	for worker := range 8 {
		workers.Go(func() {
			for i := range messages {
				at := (i + 7*worker) % len(messages)
				if blake.Sum(messages[at][:at], messages[at][at:]) != hashes[at] {
					t.Errorf("message %d of many goroutines has another hash", at)
				}
				if blake.Start(at%8) == 0 || blake.Order(at%10) == [16]int{} {
					t.Errorf("order %d of many goroutines is none", at%10)
				}
			}
		})
	}
	workers.Wait()
}

// TestNoCallPanics gives all calls odd arguments: a panic ends the test.
func TestNoCallPanics(t *testing.T) {
	x := rand.New(rand.NewSource(2))
	for range 5000 {
		i := int(x.Uint64()) >> x.Intn(64)
		if word := blake.Start(i); (word != 0) != (i >= 0 && i < 8) {
			t.Errorf("Start(%d) = %x", i, word)
		}
		if o := blake.Order(i); (o != [16]int{}) != (i >= 0 && i < 10) {
			t.Errorf("Order(%d) = %v", i, o)
		}
	}
	r := newReference()
	for range 500 {
		parts := make([][]byte, x.Intn(30))
		for i := range parts {
			if n := x.Intn(40) - 5; n >= 0 {
				parts[i] = make([]byte, n, n+x.Intn(200))
				x.Read(parts[i])
			}
		}
		check(t, r, parts...)
	}
}
