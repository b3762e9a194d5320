package blake_test

import (
	"bytes"
	"math/rand"
	"testing"

	"escutcheon/blake"
)

func checkPressed(t *testing.T, r reference, h [8]uint32, block []byte, count uint64, last bool) {
	t.Helper()
	var wide []uint64
	for _, word := range h {
		wide = append(wide, uint64(word))
	}
	want := r.pressed(wide, block, count, last)
	for i, word := range blake.Pressed(h, block, count, last) {
		if uint64(word) != want[i] {
			t.Errorf("up to %d bytes, last %v: the word %d is %x, not %x", count, last, i, word, want[i])
		}
	}
}

// counts are those at which a byte of t begins to count, the higher word's among them.
func counts() []uint64 {
	all := []uint64{0, 1, 63, 64, 65, 1<<32 - 64, 1<<32 + 64, 1<<63 - 1, 1 << 63, 1<<64 - 64, 1<<64 - 1}
	for bit := 8; bit < 64; bit += 8 {
		all = append(all, 1<<bit-1, 1<<bit, 1<<bit+1)
	}
	return all
}

func TestABlockIsPressed(t *testing.T) {
	r := newReference()
	x := rand.New(rand.NewSource(3))
	states := [][8]uint32{{}, {1<<32 - 1, 1<<32 - 1, 1<<32 - 1, 1<<32 - 1, 1<<32 - 1, 1<<32 - 1, 1<<32 - 1, 1<<32 - 1}}
	for range 5 {
		var h [8]uint32
		for i := range h {
			h[i] = x.Uint32()
		}
		states = append(states, h)
	}
	for _, h := range states {
		for _, block := range [][]byte{filled(size, 0), filled(size, 255), counted(size, 0), some(size)} {
			for _, count := range counts() {
				checkPressed(t, r, h, block, count, false)
				checkPressed(t, r, h, block, count, true)
			}
		}
	}
}

// All 64 bits of the count are in what a block comes to, and so is whether it is the last one.
func TestABlockHangsOnItsCount(t *testing.T) {
	h, block := [8]uint32{1, 2, 3, 4, 5, 6, 7, 8}, some(size)
	seen := map[[8]uint32]bool{blake.Pressed(h, block, 0, false): true, blake.Pressed(h, block, 0, true): true}
	for bit := range 64 {
		seen[blake.Pressed(h, block, 1<<bit, false)] = true
		seen[blake.Pressed(h, block, 1<<bit, true)] = true
	}
	if len(seen) != 2*65 {
		t.Error("65 counts, last or not, come to", len(seen), "states")
	}
	if h != [8]uint32{1, 2, 3, 4, 5, 6, 7, 8} || !bytes.Equal(block, some(size)) {
		t.Error("the state, or the block, was changed")
	}
}
