package disk_test

import (
	"bytes"
	"math"
	"testing"

	"escutcheon/api"
	"escutcheon/disk"
)

// odd are numbers that no count, no block and no place in one may be.
var odd = []int{-1, -2, -512, -8192, -1 << 31, -1 << 32, math.MinInt, math.MinInt + 1, 8193, 8194, 1 << 14, 1 << 16, 1<<16 + 1, 1 << 31, 1 << 32, 1<<32 + 1, 1<<63 - 1, math.MaxInt - 1}

// P14.1: New makes a disk of 1 to 8192 blocks, and none of fewer or more.
func TestNew(t *testing.T) {
	for blocks := 1; blocks <= 8192; blocks++ {
		d := made(t, blocks)
		if d.Blocks() != blocks || d.Dead() || d.Unsynced() != 0 {
			t.Fatal("a new disk of", blocks, "has", d.Blocks(), d.Dead(), d.Unsynced())
		}
	}
	for _, blocks := range append([]int{0}, odd...) {
		if d, err := disk.New(blocks); d != nil || err != api.ErrArg {
			t.Error("New", blocks, d != nil, err)
		}
	}
}

// P14.1: A new disk's blocks are noughts, all of them.
func TestNoughts(t *testing.T) {
	for _, blocks := range []int{1, 2, 3, 8, 511, 512, 513, 8191, 8192} {
		d := made(t, blocks)
		for n := range blocks {
			if b, err := d.Read(n); err != api.OK || !bytes.Equal(b, make([]byte, size)) {
				t.Fatal("of", blocks, "block", n, "is", short(b), err)
			}
		}
	}
}

// P14.1: What is no block can't be read, on a new disk and on one that was written to.
func TestReadOfNoBlock(t *testing.T) {
	for _, blocks := range []int{1, 2, 7, 8192} {
		d := made(t, blocks)
		for range 3 {
			for _, n := range append([]int{blocks, blocks + 1, 2 * blocks}, odd...) {
				if b, err := d.Read(n); b != nil || err != api.ErrArg {
					t.Error("of", blocks, "block", n, "is", short(b), err)
				}
			}
			d.Write(blocks-1, some(5))
			d.Write(0, some(5))
			d.Sync()
			d.Write(0, some(6))
		}
	}
}

// P14.1: The smallest, and the greatest disk: each block has bytes of its own, which others never see.
func TestEachBlock(t *testing.T) {
	for _, blocks := range []int{1, 2, 300, 8192} {
		d := made(t, blocks)
		mark := func(n int) []byte {
			b := some(byte(n % 251))
			b[0], b[1], b[size-1] = byte(n), byte(n>>8), byte(n*7)
			return b
		}
		for n := range blocks {
			if err := d.Write(n, mark(n)); err != api.OK {
				t.Fatal(n, err)
			}
		}
		for range 2 {
			for n := range blocks {
				if b, err := d.Read(n); err != api.OK || !bytes.Equal(b, mark(n)) {
					t.Fatal("of", blocks, "block", n, "is", short(b), err)
				}
			}
			if err := d.Sync(); err != api.OK {
				t.Fatal(err)
			}
		}
	}
}

// A call is not to take the longer the more writes are not synced, or the more blocks there are, but where it goes over them: else this takes hours.
func TestManyWrites(t *testing.T) {
	d := made(t, api.MaxBlocks)
	for n := range 100000 {
		d.Write(n%8192, some(byte(n)))
		if b, err := d.Read(n % 8192); err != api.OK || b[7] != byte(n) {
			t.Fatal(n, b[7], err)
		}
	}
	if d.Unsynced() != 100000 {
		t.Fatal(d.Unsynced())
	}
	d.Sync()
	for n := range 100000 {
		d.Write(n%8192, some(byte(n+1)))
		if err := d.Sync(); err != api.OK || d.Unsynced() != 0 {
			t.Fatal(n, err, d.Unsynced())
		}
	}
}
