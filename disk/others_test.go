package disk_test

import (
	"math/rand"
	"testing"

	"escutcheon/api"
	"escutcheon/disk"
)

// P14.3: A byte of a block is xor x, in what is read, in what is settled, and in each write that is not synced.
func TestEdit(t *testing.T) {
	edited := func(x byte) []byte {
		b := some(x)
		b[5] ^= 0xf0
		return b
	}
	for pick, want := range map[int][]byte{0: edited(7), 1: edited(8), 2: edited(9)} {
		d := written7(t, 2, some(8), some(9))
		checkErr(t, d.Edit(0, 5, 0xf0), api.OK)
		checkState(t, d, false, 2)
		checkBlock(t, d, 0, edited(9))
		checkBlock(t, d, 1, some(0))
		d.Crash([][]int{{0, 0}, {1, 0}, {0, 1}}[pick]...)
		checkBlock(t, d, 0, want)
		checkBlock(t, d, 1, some(0))
	}
	d := written7(t, 2, some(9))
	d.Edit(0, 5, 0xf0)
	d.Crash(3*3 + 2)
	checkBlock(t, d, 0, torn(3, some(9), edited(7)))
}

// P14.3: Each place in a block, each bit, and twice the same is as not at all.
func TestEditAtEachPlace(t *testing.T) {
	d := made(t, 3)
	before := random(rand.New(rand.NewSource(4)))
	d.Write(1, before)
	for at := range size {
		for bit := range 8 {
			x := byte(1 << bit)
			want := torn(size, before, before)
			want[at] ^= x
			checkErr(t, d.Edit(1, at, x), api.OK)
			checkBlock(t, d, 1, want)
			checkErr(t, d.Edit(1, at, x), api.OK)
			checkBlock(t, d, 1, before)
		}
	}
	checkErr(t, d.Edit(1, 3, 0), api.OK)
	checkErr(t, d.Edit(0, 3, 0), api.OK)
	checkBlock(t, d, 0, some(0))
	checkBlock(t, d, 1, before)
	checkBlock(t, d, 2, some(0))
}

// P14.3: A block that nobody wrote is changed, too, and it lasts without a sync; a write behind it covers it.
func TestEditOfNoughts(t *testing.T) {
	for _, blocks := range []int{1, 2, 8192} {
		d := made(t, blocks)
		checkErr(t, d.Edit(blocks-1, 511, 200), api.OK)
		want := some(0)
		want[511] = 200
		for range 2 {
			checkBlock(t, d, blocks-1, want)
			checkState(t, d, false, 0)
			d.Crash()
		}
		d.Write(blocks-1, some(4))
		checkBlock(t, d, blocks-1, some(4))
		d.Crash()
		checkBlock(t, d, blocks-1, want)
	}
}

// P14.3: What is no block, or no place in one, is ErrArg, and changes nothing.
func TestEditOfNothing(t *testing.T) {
	b := newBoth(t, 2)
	b.write(0, some(1))
	b.sync()
	b.write(0, some(2))
	b.write(1, some(2))
	b.setFuse(3)
	for _, n := range append([]int{2, 3, 512, 8191, 8192}, odd...) {
		for _, at := range []int{0, 1, 511, 512, -1} {
			checkErr(t, b.d.Edit(n, at, 7), api.ErrArg)
		}
	}
	for _, at := range append([]int{512, 513, 514, 1023, 1024, 8191, 8192}, odd...) {
		checkErr(t, b.d.Edit(0, at, 7), api.ErrArg)
		checkErr(t, b.d.Edit(1, at, 7), api.ErrArg)
	}
	b.lookDeep([]int{1, 1}, []int{0, 1})
}

// P14.3: A copy is as the disk is, in all that can be seen of it, and neither knows what becomes of the other one.
func TestCopy(t *testing.T) {
	for seed := range int64(100) {
		x := rand.New(rand.NewSource(seed))
		b := newBoth(t, 1+x.Intn(4))
		for range x.Intn(30) {
			b.act(x)
		}
		c := b.copied()
		if c.d == b.d || !c.d.Same(b.d) || !b.d.Same(c.d) {
			t.Fatal("a copy is the disk itself, or not the same")
		}
		c.lookDeep(picksOf(x, 3))
		for range 20 {
			b.act(x)
		}
		c.lookDeep(picksOf(x, 3))
		b.lookDeep()
		for range 20 {
			c.act(x)
		}
		b.lookDeep(picksOf(x, 3))
	}
}

// P14.3: What a copy has in common with the disk is none's that can be changed: each kind of change, on either side.
func TestACopyGoesOnApart(t *testing.T) {
	changes := map[string]func(b both){
		"Write to a written block":  func(b both) { b.write(0, some(20)) },
		"Write to an unsynced one":  func(b both) { b.write(1, some(21)) },
		"Write to an untouched one": func(b both) { b.write(2, some(22)) },
		"Sync":                      func(b both) { b.sync() },
		"Edit":                      func(b both) { b.edit(1, 9, 1); b.edit(0, 9, 1); b.edit(2, 9, 1) },
		"SetFuse":                   func(b both) { b.setFuse(1) },
		"Crash":                     func(b both) { b.crash(1, 1, 1) },
		"a failing step":            func(b both) { b.setFuse(0); b.sync() },
	}
	for what, change := range changes {
		for range 2 {
			b := newBoth(t, 3)
			b.write(0, some(10))
			b.sync()
			b.write(0, some(11))
			b.write(1, some(12))
			b.setFuse(7)
			c := b.copied()
			one, other := b, c
			for range 2 {
				change(one)
				other.lookDeep([]int{1, 0}, []int{0, 1})
				one.lookDeep([]int{1, 0}, []int{0, 1})
				one, other = other, one
			}
		}
		if t.Failed() {
			t.Fatal("the change is", what)
		}
	}
}

// P14.3: Two disks are the same, if what is read is: whatever is settled, dead, unsynced, or has a fuse.
func TestSame(t *testing.T) {
	one, other := made(t, 2), made(t, 2)
	same := func(want bool) {
		t.Helper()
		if one.Same(other) != want || other.Same(one) != want || !one.Same(one) || !other.Same(other) {
			t.Error("the same:", one.Same(other), other.Same(one), "not", want)
		}
	}
	same(true)
	one.Write(1, some(5))
	same(false)
	one.Sync()
	same(false)
	other.Write(1, some(6))
	same(false)
	other.Write(1, some(5))
	same(true)
	one.SetFuse(0)
	one.Write(1, some(5))
	same(true)
	other.Crash()
	same(false)
	one.Crash()
	same(false)
	other.Edit(1, 0, 5)
	same(false)
	one.Write(1, some(0))
	one.Write(0, some(0))
	other.Edit(1, 0, 5)
	same(true)
}

// P14.3: Each byte of each block counts, and how many blocks there are.
func TestSameByEachByte(t *testing.T) {
	for _, blocks := range []int{1, 2, 3} {
		one, other := made(t, blocks), made(t, blocks)
		for n := range blocks {
			one.Write(n, some(byte(n)))
			other.Write(n, some(byte(n)))
		}
		for n := range blocks {
			for at := range size {
				one.Edit(n, at, 128)
				if one.Same(other) || other.Same(one) {
					t.Fatal("the byte", at, "of the block", n, "does not count")
				}
				one.Edit(n, at, 128)
			}
		}
		if !one.Same(other) {
			t.Fatal("disks of the same blocks aren't")
		}
	}
	var all []*disk.Disk
	for _, blocks := range []int{1, 2, 3, 8191, 8192} {
		all = append(all, made(t, blocks))
	}
	for i := range all {
		for j := range all {
			if all[i].Same(all[j]) != (i == j) {
				t.Error("noughts of", all[i].Blocks(), "and of", all[j].Blocks(), "blocks")
			}
		}
	}
}

func TestSameOfTheLastBlock(t *testing.T) {
	one, other := made(t, 8192), made(t, 8192)
	one.Edit(8191, 511, 1)
	if one.Same(other) || other.Same(one) {
		t.Error("the last block does not count")
	}
	other.Write(8191, torn(511, some(0), some(1)))
	if !one.Same(other) || !other.Same(one) {
		t.Error("the last block is another one")
	}
}
