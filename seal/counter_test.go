package seal_test

import (
	"math"
	"math/rand"
	"testing"

	"escutcheon/api"
	"escutcheon/seal"
)

func checkValue(t *testing.T, c *seal.Counter, want uint64) {
	t.Helper()
	if got := c.Value(); got != want {
		t.Errorf("the counter is %d, not %d", got, want)
	}
}

// raised is a counter of a commit and burns.
func raised(t *testing.T, commit, burns uint64) *seal.Counter {
	t.Helper()
	c := seal.NewCounter()
	if n := commit*base + burns; n > 0 {
		checkErr(t, c.Raise(n), api.OK)
	}
	return c
}

// P15.1: A new counter is 0; it is raised to what is above it, by 1 and by more, and by nothing else.
func TestCounter(t *testing.T) {
	c := seal.NewCounter()
	checkValue(t, c, 0)
	checkErr(t, c.Raise(0), api.ErrSeq)
	for _, n := range []uint64{1, 2, 3, 10, 65535, 65536, 65537, 1 << 32, 1<<32 + 1, 1<<48 - 1, 1 << 48, 1 << 63, math.MaxUint64 - 1, math.MaxUint64} {
		was := c.Value()
		checkErr(t, c.Raise(n), api.OK)
		checkValue(t, c, n)
		for _, low := range []uint64{n, n - 1, was, 0, 1, n / 2} {
			checkErr(t, c.Raise(low), api.ErrSeq)
			checkValue(t, c, n)
		}
	}
	checkErr(t, c.Raise(math.MaxUint64), api.ErrSeq)
}

// P15.1: By chance: it is what it was raised to last.
func TestCounterByChance(t *testing.T) {
	x := rand.New(rand.NewSource(1))
	for range 200 {
		c := seal.NewCounter()
		is := uint64(0)
		for range 50 {
			n := x.Uint64() >> x.Intn(64)
			want := api.ErrSeq
			if n > is {
				is, want = n, api.OK
			}
			checkErr(t, c.Raise(n), want)
			checkValue(t, c, is)
		}
	}
}

// P15.1: A copy goes on apart, and counters have nothing in common.
func TestCopyOfACounter(t *testing.T) {
	c, other := raised(t, 0, 7), seal.NewCounter()
	copied := c.Copy()
	if copied == c {
		t.Fatal("a copy is the counter itself")
	}
	checkValue(t, copied, 7)
	checkErr(t, c.Raise(9), api.OK)
	checkValue(t, copied, 7)
	checkErr(t, copied.Raise(7), api.ErrSeq)
	checkErr(t, copied.Raise(8), api.OK)
	checkErr(t, copied.Copy().Raise(100), api.OK)
	checkValue(t, copied, 8)
	checkValue(t, c, 9)
	checkValue(t, other, 0)
	checkValue(t, seal.NewCounter().Copy(), 0)
	checkErr(t, seal.NewCounter().Copy().Raise(1), api.OK)
}

// P15.1: A nil counter and a zero one are 0, have no copy, and can't be raised.
func TestNoCounter(t *testing.T) {
	for _, c := range []*seal.Counter{nil, {}} {
		for range 2 {
			for _, n := range []uint64{0, 1, 65536, math.MaxUint64} {
				checkErr(t, c.Raise(n), api.ErrNil)
			}
			checkValue(t, c, 0)
			if c.Copy() != nil {
				t.Error("a copy of none")
			}
		}
	}
}
