package disk_test

import (
	"math"
	"math/rand"
	"slices"
	"testing"

	"escutcheon/api"
	"escutcheon/disk"
)

// torn is a block of which the first bytes are those of one, the others of another one.
func torn(first int, new, old []byte) []byte {
	return slices.Concat(new[:first], old[first:])
}

// written7 is a disk whose block 0 is settled as 7 throughout, with writes behind it.
func written7(t *testing.T, blocks int, behind ...[]byte) *disk.Disk {
	t.Helper()
	d := made(t, blocks)
	d.Write(0, some(7))
	checkErr(t, d.Sync(), api.OK)
	for _, b := range behind {
		checkErr(t, d.Write(0, b), api.OK)
	}
	return d
}

// P14.3: The pick of the one write: lost, lasting, or torn behind so many bytes.
func TestOnePick(t *testing.T) {
	for pick, want := range map[int]int{
		0: 0, 3: 0, 6: 0, 300: 0, 1536: 0, 1539: 0, -3: 0, -300: 0,
		1: 512, 4: 512, 7: 512, 301: 512, 1537: 512, 1540: 512, -2: 512, -5: 512,
		2: 0, 5: 1, 8: 2, 11: 3, 302: 100, 1535: 511, 1538: 512, 1541: 0, 1544: 1, 3077: 512, 3080: 0,
		-1: 512, -4: 511, -7: 510, -1537: 0, -1540: 512, -1534: 1,
	} {
		d := written7(t, 1, some(9))
		checkErr(t, d.Crash(pick), api.OK)
		checkState(t, d, false, 0)
		checkBlock(t, d, 0, torn(want, some(9), some(7)))
	}
}

// P14.3: All picks about nought, and the greatest ones, against numbers that are divided without words.
func TestAllPicks(t *testing.T) {
	var picks []int
	for pick := -3400; pick <= 3400; pick++ {
		picks = append(picks, pick)
	}
	for i := range 1600 {
		picks = append(picks, math.MaxInt-i, math.MinInt+i)
	}
	for e := 11; e < 63; e++ {
		for i := -4; i <= 4; i++ {
			picks = append(picks, 1<<e+i, -1<<e+i)
		}
	}
	x := rand.New(rand.NewSource(3))
	for range 3000 {
		picks = append(picks, int(x.Uint64()))
	}
	before, after := random(x), random(x)
	for _, pick := range picks {
		d := made(t, 1)
		d.Write(0, before)
		d.Sync()
		d.Write(0, after)
		d.Crash(pick)
		checkBlock(t, d, 0, torn(first(pick, true), after, before))
		if t.Failed() {
			t.Fatal("the pick is", pick)
		}
	}
}

// P14.3: Only the last write tears; of another one 2 is as 1.
func TestOnlyTheLastOneTears(t *testing.T) {
	for _, n := range []int{2, 3, 4, 7} {
		for at := range n {
			for _, pick := range []int{2, 5, 302, 1535, 1538, 1541, -1, -4, math.MaxInt - 2, math.MinInt + 1} {
				if _, fate := divide3(pick); fate != 2 {
					t.Fatal(pick, "is none of those that tear")
				}
				d := made(t, n)
				for i := range n {
					d.Write(i, some(9))
				}
				picks := make([]int, n)
				picks[at] = pick
				d.Crash(picks...)
				for i := range n {
					want := some(0)
					if i == at {
						want = torn(first(pick, at == n-1), some(9), some(0))
					}
					checkBlock(t, d, i, want)
				}
			}
		}
	}
}

func divide3(n int) (int, int) {
	third, fate := n/3, n%3
	if fate < 0 {
		third, fate = third-1, fate+3
	}
	return third, fate
}

// P14.3: A torn write's other bytes are as the writes ahead of it left them, those of one block or of another one.
func TestTornOverOtherWrites(t *testing.T) {
	for _, c := range []struct {
		picks []int
		want  []byte
	}{
		{[]int{0, 0}, some(7)}, {[]int{1, 0}, some(8)}, {[]int{2, 0}, some(8)}, {[]int{0, 1}, some(9)}, {[]int{1, 1}, some(9)},
		{[]int{0, 302}, torn(100, some(9), some(7))}, {[]int{1, 302}, torn(100, some(9), some(8))},
		{[]int{302, 302}, torn(100, some(9), some(8))}, {[]int{302, 0}, some(8)}, {[]int{2, 2}, some(8)},
		{[]int{1}, some(8)}, {[]int{302}, some(8)}, {nil, some(7)}, {[]int{0, 302, 1, 1}, torn(100, some(9), some(7))},
	} {
		d := written7(t, 2, some(8), some(9))
		d.Crash(c.picks...)
		checkBlock(t, d, 0, c.want)
		checkBlock(t, d, 1, some(0))
	}
	d := written7(t, 2, some(8))
	d.Write(1, some(9))
	d.Crash(302, 302)
	checkBlock(t, d, 0, some(8))
	checkBlock(t, d, 1, torn(100, some(9), some(0)))
}

// P14.3: Writes are gone over in their order: what lasts of a later one lies over what lasts of one ahead of it.
func TestWritesInTheirOrder(t *testing.T) {
	for picks := range 1 << 6 {
		b := newBoth(t, 2)
		b.write(0, some(50))
		b.write(1, some(51))
		b.sync()
		for i := range 6 {
			b.write(i%2, some(byte(100+i)))
		}
		var all []int
		for i := range 6 {
			all = append(all, picks>>i&1)
		}
		b.crash(all...)
		b.look()
	}
}

// P14.3: Where there is no pick it is 0, and picks that there is no write for are nothing.
func TestHowManyPicks(t *testing.T) {
	for picks := range 8 {
		d := made(t, 5)
		for n := range 4 {
			d.Write(n, some(9))
		}
		checkErr(t, d.Crash(slices.Repeat([]int{1}, picks)...), api.OK)
		for n := range 5 {
			want := some(0)
			if n < min(picks, 4) {
				want = some(9)
			}
			checkBlock(t, d, n, want)
		}
		checkState(t, d, false, 0)
	}
}

// P14.3: Behind a loss of power nothing is unsynced, there is no fuse, the disk is not dead; one more loses nothing more.
func TestBehindACrash(t *testing.T) {
	for steps := range 4 {
		b := newBoth(t, 2)
		b.write(1, some(3))
		b.sync()
		b.setFuse(steps)
		for range 3 {
			b.write(0, some(9))
			b.write(1, some(8))
		}
		b.crash(0, 1, 1, 0, 0, 32)
		b.lookDeep([]int{1, 1, 1}, []int{2})
		for range 3 {
			b.crash(1, 1, 1)
			b.look()
		}
		b.write(0, some(4))
		b.crash(2*3 + 2)
		b.look()
	}
}

// P14.3: A loss of power where nothing is unsynced, with a fuse or without one.
func TestACrashOfAllThatIsSynced(t *testing.T) {
	for _, picks := range [][]int{nil, {}, {0}, {1}, {2}, {1, 1, 1}, {302, 2, 0}} {
		d := written7(t, 2)
		d.SetFuse(0)
		d.Crash(picks...)
		checkBlock(t, d, 0, some(7))
		checkBlock(t, d, 1, some(0))
		checkErr(t, d.Write(1, some(5)), api.OK)
		checkErr(t, d.Sync(), api.OK)
	}
	d := made(t, 3)
	checkErr(t, d.Crash(1, 2), api.OK)
	checkBlock(t, d, 2, some(0))
}

// P14.4: What was synced lasts, whatever the picks; behind a loss of power each block is as it was settled, as a write behind left it, or, one of them, torn.
func TestWhatFollows(t *testing.T) {
	for seed := range int64(2000) {
		x := rand.New(rand.NewSource(seed))
		const blocks = 3
		d := made(t, blocks)
		may := make([][][]byte, blocks)
		for n := range may {
			may[n] = [][]byte{some(0)}
		}
		for range x.Intn(25) {
			if x.Intn(4) == 0 {
				d.Sync()
				for n := range may {
					may[n] = may[n][len(may[n])-1:]
				}
				continue
			}
			n, b := x.Intn(blocks), random(x)
			d.Write(n, b)
			may[n] = append(may[n], b)
		}
		if x.Intn(2) == 0 {
			d.SetFuse(0)
			checkErr(t, d.Sync(), api.ErrDisk)
		}
		d.Crash(picksOf(x, d.Unsynced())...)
		checkMay(t, d, may)
	}
}

func checkMay(t *testing.T, d *disk.Disk, may [][][]byte) {
	t.Helper()
	tears := 0
	for n := range may {
		b, _ := d.Read(n)
		whole := slices.ContainsFunc(may[n], func(w []byte) bool { return slices.Equal(w, b) })
		if whole {
			continue
		}
		tears++
		last := may[n][len(may[n])-1]
		if !slices.ContainsFunc(may[n], func(w []byte) bool { return isTorn(b, last, w) }) {
			t.Fatal("block", n, "is as nothing left it")
		}
	}
	if tears > 1 {
		t.Fatal(tears, "blocks are torn")
	}
}

// isTorn says whether b begins as the one, and goes on as the other one.
func isTorn(b, new, old []byte) bool {
	at := 0
	for at < size && b[at] == new[at] {
		at++
	}
	return slices.Equal(b[at:], old[at:])
}

// P14.4: All picks of each kind, of up to five writes to two blocks, behind syncs at each place.
func TestWhatWasSyncedLasts(t *testing.T) {
	kinds := []int{0, 1, 2, 3*200 + 2}
	for n := 1; n <= 5; n++ {
		for synced := range n + 1 {
			all := 1
			for range n - synced {
				all *= len(kinds)
			}
			for order := range 1 << n {
				for at := range all {
					checkSyncedLasts(t, n, synced, order, picksAt(kinds, n-synced, at))
				}
			}
		}
	}
}

func picksAt(kinds []int, n, at int) []int {
	picks := make([]int, n)
	for i := range picks {
		picks[i] = kinds[at%len(kinds)]
		at /= len(kinds)
	}
	return picks
}

func checkSyncedLasts(t *testing.T, n, synced, order int, picks []int) {
	t.Helper()
	b := newBoth(t, 2)
	for i := range n {
		if i == synced {
			b.sync()
		}
		b.write(order>>i&1, some(byte(i+1)))
	}
	if synced == n {
		b.sync()
	}
	settled := b.copied()
	settled.crash()
	b.crash(picks...)
	b.look()
	untouched := []bool{true, true}
	for i := synced; i < n; i++ {
		untouched[order>>i&1] = false
	}
	for block, is := range untouched {
		if is {
			want, _ := settled.d.Read(block)
			checkBlock(t, b.d, block, want)
		}
	}
}
