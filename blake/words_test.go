package blake_test

import (
	"math"
	"slices"
	"testing"

	"escutcheon/blake"
)

// beyond are numbers of which there is no order.
func beyond() []int {
	all := []int{math.MinInt, math.MinInt + 1, math.MinInt32 - 1, math.MinInt32, -256, -255, -10, -9, -8, -7, -2, -1,
		1 << 8, 1 << 16, math.MaxInt32, math.MaxInt32 + 1, math.MaxUint32, 1 << 32, 1<<32 + 1, math.MaxInt - 1, math.MaxInt}
	for i := 10; i < 200; i++ {
		all = append(all, i)
	}
	return all
}

func TestOrdersAsPrinted(t *testing.T) {
	all := printedOrders()
	for i, want := range all {
		if got := blake.Order(i); !slices.Equal(got[:], want) {
			t.Errorf("Order(%d) = %v, not %v", i, got, want)
		}
	}
	if len(all) != 10 {
		t.Error(len(all), "orders are printed")
	}
}

func TestAnOrderHasEachNumberOnce(t *testing.T) {
	seen := map[[16]int]bool{}
	for i := range 10 {
		o := blake.Order(i)
		seen[o] = true
		var times [16]int
		for _, n := range o {
			if n < 0 || n > 15 {
				t.Fatalf("Order(%d) has %d", i, n)
			}
			times[n]++
		}
		for n, count := range times {
			if count != 1 {
				t.Errorf("Order(%d) has %d %d times", i, n, count)
			}
		}
	}
	if len(seen) != 10 {
		t.Error("only", len(seen), "orders")
	}
}

func TestThereIsNoOtherOrder(t *testing.T) {
	for _, i := range beyond() {
		if got := blake.Order(i); got != [16]int{} {
			t.Errorf("Order(%d) = %v", i, got)
		}
	}
}

// The words as RFC 7693 prints them.
func TestStartsAsPrinted(t *testing.T) {
	for i, want := range []uint32{0x6a09e667, 0xbb67ae85, 0x3c6ef372, 0xa54ff53a, 0x510e527f, 0x9b05688c, 0x1f83d9ab, 0x5be0cd19} {
		if got := blake.Start(i); got != want {
			t.Errorf("Start(%d) = %x, not %x", i, got, want)
		}
	}
}

func TestStartsAreOfSquareRoots(t *testing.T) {
	all := roots()
	for i, want := range all {
		if got := blake.Start(i); uint64(got) != want {
			t.Errorf("Start(%d) = %x, not %x", i, got, want)
		}
	}
	if len(all) != 8 {
		t.Error(len(all), "roots")
	}
}

func TestThereIsNoOtherStart(t *testing.T) {
	for _, i := range append(beyond(), 8, 9) {
		if word := blake.Start(i); word != 0 {
			t.Errorf("Start(%d) = %x", i, word)
		}
	}
}

// An order that was answered is the caller's: what it makes of it is seen by nobody else.
func TestOrdersStay(t *testing.T) {
	before := blake.Sum([]byte("abc"))
	for i := range 10 {
		first := blake.Order(i)
		clear(first[:])
		second := blake.Order(i)
		if !slices.Equal(second[:], printedOrders()[i]) {
			t.Errorf("Order(%d) that was changed is answered again", i)
		}
	}
	none := blake.Order(10)
	none[3] = 1
	if blake.Order(10) != [16]int{} || blake.Order(-1) != [16]int{} {
		t.Error("noughts that were changed are answered again")
	}
	if blake.Sum([]byte("abc")) != before {
		t.Error("a hash goes by orders that were changed")
	}
}

func TestWordsAreAskedInAnyOrder(t *testing.T) {
	var up, down [10]uint32
	for i := range 10 {
		up[i] = blake.Start(i) ^ uint32(blake.Order(i)[i])
	}
	blake.Sum(some(300))
	for i := range 10 {
		down[9-i] = uint32(blake.Order(9 - i)[9-i]) ^ blake.Start(9-i)
	}
	if up != down {
		t.Error("other words in another order")
	}
}
