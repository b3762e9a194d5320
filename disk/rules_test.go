package disk_test

import (
	"bytes"
	"math/rand"
	"slices"
	"sync"
	"testing"

	"escutcheon/api"
	"escutcheon/disk"
)

// A nil disk and a zero one are ErrNil, ahead of all, and nothing changes them.
func TestNilAndZero(t *testing.T) {
	for _, d := range []*disk.Disk{nil, {}} {
		for range 2 {
			for _, n := range append([]int{0, 1, 512}, odd...) {
				if b, err := d.Read(n); b != nil || err != api.ErrNil {
					t.Error("Read", short(b), err)
				}
				checkErr(t, d.Write(n, some(1)), api.ErrNil)
				checkErr(t, d.Write(n, nil), api.ErrNil)
				checkErr(t, d.SetFuse(n), api.ErrNil)
				checkErr(t, d.Edit(n, 0, 1), api.ErrNil)
				checkErr(t, d.Edit(0, n, 1), api.ErrNil)
				checkErr(t, d.Crash(n, n), api.ErrNil)
			}
			checkErr(t, d.Sync(), api.ErrNil)
			checkErr(t, d.Crash(), api.ErrNil)
			checkState(t, d, false, 0)
			if d.Blocks() != 0 || d.Copy() != nil {
				t.Error("of none:", d.Blocks(), d.Copy())
			}
		}
	}
}

func TestSameOfNilAndZero(t *testing.T) {
	none := []*disk.Disk{nil, {}, {}}
	one := made(t, 1)
	for _, a := range none {
		for _, b := range none {
			if !a.Same(b) {
				t.Error("two that are none are not the same")
			}
		}
		if a.Same(one) || one.Same(a) {
			t.Error("one that is none is the same as a disk")
		}
	}
}

// What is handed in is not kept, nor changed, nor is what has room behind it.
func TestArgumentsStay(t *testing.T) {
	room := append(some(6), 1, 2, 3)
	given := room[:size]
	d := made(t, 2)
	checkErr(t, d.Write(0, given), api.OK)
	for range 2 {
		clear(given)
		checkBlock(t, d, 0, some(6))
		checkErr(t, d.Sync(), api.OK)
	}
	copy(given, some(5))
	d.Write(0, given)
	d.Edit(0, 3, 255)
	d.Sync()
	if !bytes.Equal(room, append(some(5), 1, 2, 3)) {
		t.Error("what was written was changed")
	}
	picks := []int{2, -1, 302, 5}
	d.Write(0, some(1))
	d.Write(1, some(2))
	d.Crash(picks[:3]...)
	if !slices.Equal(picks, []int{2, -1, 302, 5}) {
		t.Error("picks were changed")
	}
}

// What is read is new memory: of a block that nobody wrote, that is synced, and that is not.
func TestAnswersShareNothing(t *testing.T) {
	b := newBoth(t, 3)
	b.write(0, some(7))
	b.sync()
	b.write(1, some(8))
	for n := range 3 {
		one, _ := b.d.Read(n)
		other, _ := b.d.Read(n)
		want := bytes.Clone(other)
		one = one[:cap(one)]
		for i := range one {
			one[i] ^= 255
		}
		if !bytes.Equal(other, want) {
			t.Error("what is read hangs on what was read")
		}
		b.look()
		b.d.Edit(n, 0, 1)
		b.p.edit(n, 0, 1)
		b.d.Write(n, some(77))
		if !bytes.Equal(other, want) {
			t.Error("what was read hangs on what becomes of the disk")
		}
		b.p.write(n, some(77))
	}
	b.lookDeep([]int{1, 1, 1})
}

// The same calls come to the same, whenever they are made.
func TestNothingHangsOnChance(t *testing.T) {
	play := func() []*disk.Disk {
		x := rand.New(rand.NewSource(5))
		b := newBoth(t, 40)
		var all []*disk.Disk
		for range 600 {
			b.act(x)
			all = append(all, b.d.Copy())
		}
		return all
	}
	one, other := play(), play()
	for i := range one {
		if !one[i].Same(other[i]) || one[i].Dead() != other[i].Dead() || one[i].Unsynced() != other[i].Unsynced() {
			t.Fatal("the same calls come to something else, at", i)
		}
	}
}

// Many may look at one disk at a time.
func TestManyLookAtATime(t *testing.T) {
	b := newBoth(t, 4)
	b.write(0, some(7))
	b.sync()
	b.write(1, some(8))
	b.write(0, some(9))
	var workers sync.WaitGroup
	for range 8 {
		workers.Go(func() {
			for range 200 {
				for n, want := range [][]byte{some(9), some(8), some(0), some(0)} {
					if got, err := b.d.Read(n); err != api.OK || !bytes.Equal(got, want) {
						t.Errorf("block %d is %s, %v", n, short(got), err)
					}
				}
				if c := b.d.Copy(); !c.Same(b.d) || b.d.Unsynced() != 2 || b.d.Dead() || b.d.Blocks() != 4 {
					t.Error("many that look see something else")
				}
			}
		})
	}
	workers.Wait()
}

// TestNoCallPanics gives all calls odd arguments, on disks of all kinds: a panic ends the test.
func TestNoCallPanics(t *testing.T) {
	x := rand.New(rand.NewSource(6))
	number := func() int {
		switch x.Intn(3) {
		case 0:
			return odd[x.Intn(len(odd))]
		case 1:
			return x.Intn(600)
		}
		return int(x.Uint64())
	}
	all := []*disk.Disk{nil, {}, made(t, 1), made(t, 7), made(t, 8192)}
	for range 20000 {
		d := all[x.Intn(len(all))]
		disk.New(number())
		d.Read(number())
		d.Write(number(), make([]byte, x.Intn(2)*(510+x.Intn(4))))
		d.Edit(number(), number(), byte(x.Intn(256)))
		d.SetFuse(number())
		switch x.Intn(20) {
		case 0:
			d.Crash(number(), number())
		case 1:
			d.Copy().Sync()
		case 2:
			d.Sync()
		case 3:
			d.Same(all[x.Intn(3)])
		}
	}
}
