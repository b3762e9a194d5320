package disk_test

import (
	"bytes"
	"math"
	"math/rand"
	"testing"

	"escutcheon/api"
	"escutcheon/disk"
)

func checkBlock(t *testing.T, d *disk.Disk, n int, want []byte) {
	t.Helper()
	if b, err := d.Read(n); err != api.OK || !bytes.Equal(b, want) {
		t.Errorf("block %d is %s, %v; not %s", n, short(b), err, short(want))
	}
}

func checkErr(t *testing.T, got, want api.Errno) {
	t.Helper()
	if got != want {
		t.Errorf("the answer is %v, not %v", got, want)
	}
}

func checkState(t *testing.T, d *disk.Disk, dead bool, unsynced int) {
	t.Helper()
	if d.Dead() != dead || d.Unsynced() != unsynced {
		t.Errorf("dead %v, %d not synced; not %v, %d", d.Dead(), d.Unsynced(), dead, unsynced)
	}
}

// P14.2: What was written last is read, synced or not, and each write counts until it is synced.
func TestWriteAndSync(t *testing.T) {
	x := rand.New(rand.NewSource(1))
	d := made(t, 3)
	for range 5 {
		checkErr(t, d.Sync(), api.OK)
		for i := range 20 {
			b := random(x)
			checkErr(t, d.Write(1, b), api.OK)
			checkState(t, d, false, i+1)
			checkBlock(t, d, 1, b)
		}
		checkBlock(t, d, 0, some(0))
		checkBlock(t, d, 2, some(0))
		b, _ := d.Read(1)
		checkErr(t, d.Sync(), api.OK)
		checkState(t, d, false, 0)
		checkBlock(t, d, 1, b)
		d.Crash()
		checkBlock(t, d, 1, b)
	}
}

// P14.2: The same bytes once more are a write once more.
func TestTheSameBytesAreAWrite(t *testing.T) {
	d := made(t, 1)
	for i := range 4 {
		checkErr(t, d.Write(0, some(0)), api.OK)
		checkState(t, d, false, i+1)
	}
}

// P14.2: No block, or no block's bytes: ErrArg, also on a dead disk, and nothing has changed.
func TestWritesThatMayNotBe(t *testing.T) {
	for _, dead := range []bool{false, true} {
		b := newBoth(t, 2)
		b.write(0, some(3))
		b.sync()
		b.write(1, some(4))
		b.setFuse(1)
		b.write(0, some(5))
		if dead {
			b.write(0, some(6))
		}
		bad := func(n, length int) {
			checkErr(t, b.d.Write(n, make([]byte, length)), api.ErrArg)
			b.lookDeep()
		}
		for _, length := range []int{0, 1, 2, 256, 510, 511, 513, 514, 1023, 1024, 1 << 16, 1<<16 + 512} {
			bad(0, length)
			bad(1, length)
			bad(2, length)
		}
		for _, n := range append([]int{2, 3, 8191, 8192}, odd...) {
			bad(n, 512)
			bad(n, 511)
		}
		checkErr(t, b.d.Write(0, nil), api.ErrArg)
		b.lookDeep()
	}
}

// step takes a step: a write, or a sync.
func step(d *disk.Disk, isWrite bool) api.Errno {
	if isWrite {
		return d.Write(0, some(9))
	}
	return d.Sync()
}

// P14.2: So many steps are done as the fuse has, of writes and syncs in any order; the next one fails, and each behind it is refused.
func TestFuse(t *testing.T) {
	for steps := range 9 {
		for order := range 1 << (steps + 1) {
			d := made(t, 1)
			checkErr(t, d.SetFuse(steps), api.OK)
			unsynced := 0
			for i := range steps + 1 {
				isWrite := order>>i&1 == 1
				want := api.OK
				if i == steps {
					want = api.ErrDisk
				}
				checkState(t, d, false, unsynced)
				checkErr(t, step(d, isWrite), want)
				if isWrite {
					unsynced++
				} else if want == api.OK {
					unsynced = 0
				}
			}
			for range 3 {
				checkState(t, d, true, unsynced)
				checkErr(t, step(d, true), api.ErrDead)
				checkErr(t, step(d, false), api.ErrDead)
			}
		}
	}
}

// P14.2: Without a fuse no step fails.
func TestNoFuse(t *testing.T) {
	d := made(t, 1)
	for i := range 3000 {
		checkErr(t, step(d, i%3 != 0), api.OK)
	}
	checkErr(t, d.SetFuse(2), api.OK)
	d.Crash()
	for i := range 3000 {
		checkErr(t, step(d, i%3 != 0), api.OK)
	}
	checkState(t, d, false, 2)
}

// P14.2: Reading, looking, changing and copying are no steps; nor is what is refused.
func TestWhatIsNoStep(t *testing.T) {
	b := newBoth(t, 2)
	b.setFuse(3)
	b.write(0, some(1))
	for range 10 {
		b.look()
		b.edit(0, 5, 1)
		b.edit(2, 5, 1)
		b.write(2, some(1))
		b.write(0, some(1)[1:])
		b.setFuse(-1)
		b.copied().sync()
		b.d.Same(b.d)
	}
	b.sync()
	b.write(1, some(2))
	b.look()
	checkErr(t, b.d.Write(1, some(3)), api.ErrDisk)
}

// P14.2: A fuse that is set once more counts from there on; one below 0 is refused, and leaves the one that is there.
func TestSetFuse(t *testing.T) {
	for _, before := range []int{0, 1, 5} {
		for _, steps := range []int{0, 1, 2, 7} {
			d := made(t, 1)
			d.SetFuse(before)
			for range before {
				checkErr(t, d.Sync(), api.OK)
			}
			checkErr(t, d.SetFuse(steps), api.OK)
			for _, bad := range []int{-1, -2, math.MinInt, -1 << 31, -1 << 32} {
				checkErr(t, d.SetFuse(bad), api.ErrArg)
			}
			for range steps {
				checkErr(t, d.Sync(), api.OK)
			}
			checkState(t, d, false, 0)
			checkErr(t, d.Sync(), api.ErrDisk)
		}
	}
	d := made(t, 1)
	checkErr(t, d.SetFuse(-1), api.ErrArg)
	for range 100 {
		checkErr(t, d.Sync(), api.OK)
	}
}

func TestGreatFuses(t *testing.T) {
	for _, steps := range []int{1 << 16, 1 << 31, 1 << 32, math.MaxInt - 1, math.MaxInt} {
		d := made(t, 1)
		checkErr(t, d.SetFuse(steps), api.OK)
		for i := range 2000 {
			checkErr(t, step(d, i%2 == 0), api.OK)
		}
		checkState(t, d, false, 0)
	}
}

// P14.2: The write that fails is one that is not synced: it is read, and may last, be lost or torn.
func TestTheWriteThatFails(t *testing.T) {
	for pick, want := range map[int][]byte{0: some(7), 1: some(9), 3*10 + 2: append(some(9)[:10], some(7)[10:]...)} {
		d := made(t, 2)
		d.Write(1, some(7))
		d.Sync()
		d.SetFuse(1)
		checkErr(t, d.Write(0, some(8)), api.OK)
		checkErr(t, d.Write(1, some(9)), api.ErrDisk)
		checkState(t, d, true, 2)
		checkBlock(t, d, 1, some(9))
		checkErr(t, d.Crash(1, pick), api.OK)
		checkState(t, d, false, 0)
		checkBlock(t, d, 0, some(8))
		checkBlock(t, d, 1, want)
	}
}

// P14.2: A sync that fails settles nothing, and a write that is refused is none.
func TestTheSyncThatFails(t *testing.T) {
	d := made(t, 2)
	d.Write(0, some(7))
	d.Sync()
	d.Write(0, some(8))
	d.Write(1, some(9))
	d.SetFuse(0)
	checkErr(t, d.Sync(), api.ErrDisk)
	checkState(t, d, true, 2)
	checkErr(t, d.Write(0, some(5)), api.ErrDead)
	checkErr(t, d.Sync(), api.ErrDead)
	checkState(t, d, true, 2)
	checkBlock(t, d, 0, some(8))
	checkBlock(t, d, 1, some(9))
	d.Crash()
	checkBlock(t, d, 0, some(7))
	checkBlock(t, d, 1, some(0))
}

// P14.2: On a dead disk all but writes and syncs goes on; a fuse that is set then does not bring it back.
func TestADeadDisk(t *testing.T) {
	b := newBoth(t, 3)
	b.write(0, some(1))
	b.sync()
	b.write(0, some(2))
	b.setFuse(0)
	b.write(1, some(3))
	for _, steps := range []int{5, 0, -1, math.MaxInt} {
		b.setFuse(steps)
		b.edit(0, 7, 9)
		b.edit(1, 7, 9)
		b.write(0, some(4))
		b.sync()
		b.look()
		if !b.d.Dead() || !b.d.Copy().Dead() || !b.d.Same(b.d.Copy()) {
			t.Error("a dead disk isn't dead, or not its copy")
		}
		b.lookDeep([]int{1, 1}, []int{0, 1}, []int{1, 302})
	}
	b.crash(1, 1)
	for range 20 {
		b.write(2, some(6))
		b.sync()
		b.look()
	}
}

// Each disk has a fuse, and writes, of its own.
func TestDisksAreApart(t *testing.T) {
	one, two := made(t, 2), made(t, 2)
	one.SetFuse(0)
	checkErr(t, two.Write(0, some(4)), api.OK)
	checkErr(t, one.Sync(), api.ErrDisk)
	checkErr(t, two.Sync(), api.OK)
	checkState(t, one, true, 0)
	checkState(t, two, false, 0)
	checkBlock(t, one, 0, some(0))
	checkBlock(t, two, 0, some(4))
}
