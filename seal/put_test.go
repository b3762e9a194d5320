package seal_test

import (
	"bytes"
	"math"
	"math/big"
	"testing"

	"escutcheon/api"
	"escutcheon/disk"
	"escutcheon/seal"
)

// turned is a new journal of so many blocks, with a snapshot.
func turned(t *testing.T, blocks int, snapshot []byte) (*disk.Disk, *seal.Counter, *seal.Journal) {
	t.Helper()
	d, c := made(t, blocks), seal.NewCounter()
	j := opened(t, d, c)
	checkErr(t, j.Turn(snapshot), api.OK)
	return d, c, j
}

// state is all that can be seen of a journal, its disk and its counter.
type state struct {
	lines      []line
	last       uint64
	room       int
	dead       bool
	d          *disk.Disk
	value      uint64
	unsynced   int
	isDiskDead bool
}

func stateOf(d *disk.Disk, c *seal.Counter, j *seal.Journal) state {
	return state{append([]line{{0, j.Snapshot()}}, changes(j)...), j.Last(), j.Room(), j.Dead(), d.Copy(), c.Value(), d.Unsynced(), d.Dead()}
}

// checkState says whether all is as it was.
func checkState(t *testing.T, d *disk.Disk, c *seal.Counter, j *seal.Journal, was state) {
	t.Helper()
	is := stateOf(d, c, j)
	if !is.d.Same(was.d) || is.value != was.value || is.unsynced != was.unsynced || is.isDiskDead != was.isDiskDead {
		t.Fatal("the disk, or the counter, has changed", is.value, was.value)
	}
	if is.last != was.last || is.room != was.room || is.dead != was.dead {
		t.Fatal("the journal has changed", is.last, is.room, is.dead)
	}
	for i, line := range is.lines {
		if len(is.lines) != len(was.lines) || !sameLine(line, was.lines[i]) {
			t.Fatal("its records have changed")
		}
	}
}

// P15.3: Need is so many blocks as 4 bytes, the bytes and a mark of 16 come to; of below 0 it is 0.
func TestNeed(t *testing.T) {
	for n, want := range map[int]int{0: 1, 1: 1, 491: 1, 492: 1, 493: 2, 494: 2, 511: 2, 512: 2, 513: 2, 1003: 2, 1004: 2, 1005: 3, 2<<20 - 20: 4096, 2<<20 - 19: 4097} {
		if got := seal.Need(n); got != want {
			t.Errorf("Need(%d) is %d, not %d", n, got, want)
		}
	}
	numbers := []int{math.MaxInt, math.MaxInt - 1, math.MaxInt - 19, math.MaxInt - 20, math.MaxInt - 21, math.MaxInt - 511, math.MaxInt - 512, 1<<31 - 1, 1 << 31, 1<<32 - 20, 1 << 32, 1 << 62}
	for n := range 3 * size {
		numbers = append(numbers, n, math.MaxInt-n)
	}
	for _, n := range numbers {
		blocks := new(big.Int).Add(big.NewInt(int64(n)), big.NewInt(20+511))
		if blocks.Div(blocks, big.NewInt(512)); blocks.Int64() != int64(seal.Need(n)) {
			t.Errorf("Need(%d) is %d, not %d", n, seal.Need(n), blocks)
		}
	}
	for _, n := range []int{-1, -2, -19, -20, -21, -512, -1 << 31, -1 << 32, math.MinInt, math.MinInt + 1} {
		if got := seal.Need(n); got != 0 {
			t.Errorf("Need(%d) is %d", n, got)
		}
	}
}

// P15.3: Ahead of the first turn: Put is ErrState, and there is no room, also where a half has some.
func TestAheadOfTheFirstTurn(t *testing.T) {
	d, c, j := turned(t, 8, []byte("a"))
	checkErr(t, j.Put([]byte("b")), api.OK)
	again := opened(t, d, c)
	was := stateOf(d, c, again)
	if was.last != 3 || was.room != 0 || was.dead {
		t.Error("last", was.last, "room", was.room)
	}
	for _, n := range []int{0, 1, 492, 493, 5000} {
		checkErr(t, again.Put(some(n, 1)), api.ErrState)
		checkState(t, d, c, again, was)
	}
	checkErr(t, again.Turn([]byte("c")), api.OK)
	if again.Last() != 5 || again.Room() != 3*size-20 {
		t.Error("last", again.Last(), "room", again.Room())
	}
	checkErr(t, again.Put([]byte("d")), api.OK)
	checkValue(t, c, 6*base)
	checkJournal(t, opened(t, d, c), []line{{5, []byte("c")}, {6, []byte("d")}})
}

// P15.3: The number of the first turn is the commit, the burns ahead of the burn, and 2; later ones are the last one's next. The counter rises to it.
func TestNumbers(t *testing.T) {
	for burns := range 5 {
		d, c := made(t, 8), seal.NewCounter()
		commit := uint64(0)
		for round := range 4 {
			for range burns {
				opened(t, d, c)
			}
			j := opened(t, d, c)
			checkValue(t, c, commit*base+uint64(burns)+1)
			number := commit + uint64(burns) + 2
			for i := range 6 {
				if i%3 == 0 {
					checkErr(t, j.Turn(some(10, round)), api.OK)
				} else {
					checkErr(t, j.Put(some(20, i)), api.OK)
				}
				commit = number
				checkValue(t, c, commit*base)
				if j.Last() != commit {
					t.Fatal("last", j.Last(), "not", commit)
				}
				number++
			}
		}
	}
}

// P15.3: Room is what a change may have: so many bytes are put, one more is ErrFull, and nothing is written.
func TestRoom(t *testing.T) {
	for _, blocks := range []int{4, 6, 8, 20} {
		for _, snapshot := range []int{0, 484, 485, 900, 996, 997} {
			for _, change := range []int{-1, 0, 492, 493, 1004, 1005} {
				h := blocks / 2
				left := h - seal.Need(snapshot+8)
				if left < 0 {
					continue
				}
				d, c, j := turned(t, blocks, some(snapshot, 1))
				if change >= 0 && seal.Need(change) <= left {
					checkErr(t, j.Put(some(change, 1)), api.OK)
					left -= seal.Need(change)
				}
				checkRoom(t, d, c, j, max(0, left*size-20), left > 0)
			}
		}
	}
}

// checkRoom puts what has no room, then what just has.
func checkRoom(t *testing.T, d *disk.Disk, c *seal.Counter, j *seal.Journal, room int, hasRoom bool) {
	t.Helper()
	was := stateOf(d, c, j)
	if was.room != room {
		t.Fatal("room", was.room, "not", room)
	}
	for _, more := range []int{1, 2, 492, 493, size, 5000, 1 << 20} {
		checkErr(t, j.Put(make([]byte, room+more)), api.ErrFull)
		checkState(t, d, c, j, was)
	}
	want := api.ErrFull
	if hasRoom {
		want = api.OK
	}
	checkErr(t, j.Put(some(room, 3)), want)
	if j.Room() != 0 {
		t.Fatal("room", j.Room())
	}
	full := stateOf(d, c, j)
	for _, n := range []int{0, 1, 492, 5000} {
		checkErr(t, j.Put(make([]byte, n)), api.ErrFull)
		checkState(t, d, c, j, full)
	}
	checkErr(t, j.Turn(nil), api.OK)
	if want := (d.Blocks()/2-1)*size - 20; j.Room() != want {
		t.Fatal("room behind a turn", j.Room(), "not", want)
	}
}

// P15.3: A snapshot that has no room in its half is ErrFull, the first one and later ones; nothing is written, and another one has its number.
func TestSnapshotsWithoutRoom(t *testing.T) {
	for _, blocks := range []int{4, 6, 8, 20} {
		most := blocks/2*size - 28
		d, c := made(t, blocks), seal.NewCounter()
		j := opened(t, d, c)
		full := func() {
			t.Helper()
			was := stateOf(d, c, j)
			for _, more := range []int{1, 2, 8, 9, 20, 28, 29, size, 1 << 20} {
				checkErr(t, j.Turn(make([]byte, most+more)), api.ErrFull)
				checkState(t, d, c, j, was)
			}
		}
		full()
		checkErr(t, j.Put(nil), api.ErrState)
		for i := range 3 {
			checkErr(t, j.Turn(some(most, i)), api.OK)
			checkValue(t, c, uint64(2+i)*base)
			checkJournal(t, j, []line{{uint64(2 + i), some(most, i)}})
			full()
			if j.Room() != 0 {
				t.Error("room", j.Room())
			}
			checkErr(t, j.Put(nil), api.ErrFull)
		}
		checkJournal(t, opened(t, d, c), []line{{4, some(most, 2)}})
		checkErr(t, j.Turn(some(most-size, 1)), api.OK)
		checkErr(t, j.Put(some(492, 1)), api.OK)
		full()
	}
}

// P15.3: The greatest disk's halves take 2 MiB each.
func TestTheGreatestDisk(t *testing.T) {
	const most = 4096*size - 28
	d, c, j := turned(t, 8192, some(most, 1))
	checkErr(t, j.Turn(make([]byte, most+1)), api.ErrFull)
	checkJournal(t, opened(t, d, c), []line{{2, some(most, 1)}})
	checkErr(t, j.Turn(some(3, 2)), api.OK)
	if j.Room() != 4095*size-20 {
		t.Error("room", j.Room())
	}
	checkErr(t, j.Put(make([]byte, j.Room()+1)), api.ErrFull)
	lines := []line{{3, some(3, 2)}, {4, some(j.Room(), 3)}}
	checkErr(t, j.Put(lines[1].content), api.OK)
	checkJournal(t, opened(t, d, c), lines)
}

// step turns or puts so many bytes.
func step(j *seal.Journal, isTurn bool, b []byte) api.Errno {
	if isTurn {
		return j.Turn(b)
	}
	return j.Put(b)
}

// P15.3: A record is so many writes as it has blocks, and a sync: where one of them fails, it is ErrDisk, the writes up to it are done, and the journal is dead.
func TestStepsThatFail(t *testing.T) {
	for _, isTurn := range []bool{true, false} {
		for _, n := range []int{0, 300, 484, 485, 492, 493, 1200} {
			blocks := seal.Need(n)
			if isTurn {
				blocks = seal.Need(n + 8)
			}
			for steps := range blocks + 2 {
				d, c, j := turned(t, 12, some(5, 1))
				checkErr(t, j.Put(some(5, 2)), api.OK)
				was := stateOf(d, c, j)
				d.SetFuse(steps)
				if steps == blocks+1 {
					checkErr(t, step(j, isTurn, some(n, 3)), api.OK)
					checkErr(t, d.Sync(), api.ErrDisk) // not a step was left
					continue
				}
				checkErr(t, step(j, isTurn, some(n, 3)), api.ErrDisk)
				if d.Unsynced() != min(steps+1, blocks) || !d.Dead() || !j.Dead() {
					t.Fatal(d.Unsynced(), "writes of", blocks, "with a fuse of", steps)
				}
				checkDead(t, d, c, j, was)
			}
		}
	}
}

// checkDead says whether a journal is dead for good, and tells what it told ahead of that; its disk is left as it is.
func checkDead(t *testing.T, d *disk.Disk, c *seal.Counter, j *seal.Journal, was state) {
	t.Helper()
	checkValue(t, c, was.value)
	if j.Last() != was.last || j.Room() != was.room {
		t.Fatal("last", j.Last(), "room", j.Room())
	}
	got := append([]line{{0, j.Snapshot()}}, changes(j)...)
	for i, line := range got {
		if len(got) != len(was.lines) || !sameLine(line, was.lines[i]) {
			t.Fatal("its records have changed")
		}
	}
	is := stateOf(d, c, j)
	for range 2 {
		for _, n := range []int{0, 1, 492, 100000} {
			checkErr(t, j.Turn(some(n, 1)), api.ErrDead)
			checkErr(t, j.Put(some(n, 1)), api.ErrDead)
			checkState(t, d, c, j, is)
		}
		d.Crash()
		is = stateOf(d, c, j)
	}
}

// P15.3: ErrDead ahead of ErrState and ErrFull: a first turn that fails.
func TestAFirstTurnThatFails(t *testing.T) {
	for steps := range 3 {
		d, c := made(t, 8), seal.NewCounter()
		j := opened(t, d, c)
		was := stateOf(d, c, j)
		d.SetFuse(steps)
		want := api.ErrDisk
		if steps == 2 {
			want = api.OK
		}
		checkErr(t, j.Turn([]byte("a")), want)
		if want == api.ErrDisk {
			checkDead(t, d, c, j, was)
			checkErr(t, j.Put(make([]byte, 100000)), api.ErrDead)
		}
	}
}

// P15.3: ErrFull ahead of ErrDisk: on a dead disk, what has no room is not tried, and kills nothing; what has room is.
func TestOnADeadDisk(t *testing.T) {
	d, c, j := turned(t, 4, nil)
	d.SetFuse(0)
	checkErr(t, d.Sync(), api.ErrDisk)
	was := stateOf(d, c, j)
	checkErr(t, j.Put(make([]byte, 493)), api.ErrFull)
	checkErr(t, j.Turn(make([]byte, 997)), api.ErrFull)
	checkState(t, d, c, j, was)
	checkErr(t, j.Put(make([]byte, 492)), api.ErrDisk)
	checkDead(t, d, c, j, was)
	checkValue(t, c, 2*base)
}

// P15.3: Blocks are written in rising order: what a loss of power leaves of the first ones of them.
func TestBlocksInRisingOrder(t *testing.T) {
	for _, isTurn := range []bool{true, false} {
		for at := range 3 {
			d, _, j := turned(t, 16, some(5, 1))
			first := 1
			if isTurn {
				first = 8
			}
			checkBlocks := func(j *seal.Journal, d *disk.Disk) *disk.Disk {
				before := d.Copy()
				d.SetFuse(at)
				checkErr(t, step(j, isTurn, some(1300, 2)), api.ErrDisk) // of 3 blocks
				if d.Unsynced() != at+1 {
					t.Fatal(d.Unsynced())
				}
				return before
			}
			before := checkBlocks(j, d)
			for n := range d.Blocks() {
				was, _ := before.Read(n)
				is, _ := d.Read(n)
				if isWritten := n >= first && n <= first+at; bytes.Equal(was, is) == isWritten {
					t.Fatal("behind", at+1, "writes the block", n, "is written, or not")
				}
			}
		}
	}
}

// P15.3: Each block of a record is written once, and no other one is: also where the half has old bytes.
func TestNoOtherBlockIsWritten(t *testing.T) {
	d, _, j := turned(t, 12, some(2000, 1))
	checkErr(t, j.Turn(some(2500, 2)), api.OK)
	for i, n := range []int{0, 1000, 485} {
		before := d.Copy()
		checkErr(t, j.Turn(some(n, 3)), api.OK)
		half := i % 2 * 6
		for at := range d.Blocks() {
			was, _ := before.Read(at)
			is, _ := d.Read(at)
			if isWritten := at >= half && at < half+seal.Need(n+8); bytes.Equal(was, is) == isWritten {
				t.Fatal("the block", at, "is written, or not, by a turn of", n)
			}
		}
	}
}

// P15.3: Where somebody else raised the counter to a number, or above, what is sealed of that number would not come up: it is refused, and nothing is written.
func TestACounterThatSomebodyElseRaised(t *testing.T) {
	d, c, j := turned(t, 8, []byte("a"))
	checkErr(t, c.Raise(3*base-1), api.OK) // not yet
	checkErr(t, j.Put([]byte("b")), api.OK)
	checkErr(t, c.Raise(4*base), api.OK)
	was := stateOf(d, c, j)
	for range 2 {
		checkErr(t, j.Put([]byte("c")), api.ErrSeq)
		checkErr(t, j.Turn([]byte("c")), api.ErrSeq)
		checkErr(t, j.Put(make([]byte, 5000)), api.ErrFull)
		checkState(t, d, c, j, was)
	}
	checkErr(t, c.Raise(math.MaxUint64), api.OK)
	checkErr(t, j.Put(nil), api.ErrSeq)

	d, c = made(t, 8), seal.NewCounter()
	elder, younger := opened(t, d, c), opened(t, d, c)
	checkErr(t, younger.Turn([]byte("b")), api.OK)
	was = stateOf(d, c, elder)
	checkErr(t, elder.Turn([]byte("a")), api.ErrSeq)
	checkState(t, d, c, elder, was)
	checkJournal(t, opened(t, d, c), []line{{3, []byte("b")}})
}

// P15.3: No number is put that the counter can't say as its commit.
func TestTheGreatestCommit(t *testing.T) {
	const greatest = 1<<48 - 1
	for commit, want := range map[uint64]api.Errno{greatest: api.ErrSpent, greatest - 1: api.ErrSpent, greatest - 2: api.OK, greatest - 3: api.OK} {
		l := newLaid(t, 8)
		l.record(0, commit, commit, []byte("a"))
		c := raised(t, commit, 0)
		j := opened(t, l.d, c)
		was := stateOf(l.d, c, j)
		checkErr(t, j.Turn([]byte("b")), want)
		if want != api.OK {
			checkErr(t, j.Turn(make([]byte, 5000)), api.ErrSpent)
			checkState(t, l.d, c, j, was)
			continue
		}
		for number := commit + 3; number <= greatest; number++ {
			checkErr(t, j.Put(nil), api.OK)
		}
		checkValue(t, c, greatest*base)
		was = stateOf(l.d, c, j)
		checkErr(t, j.Put(nil), api.ErrSpent)
		checkErr(t, j.Put(make([]byte, 5000)), api.ErrSpent)
		checkErr(t, j.Turn(nil), api.ErrSpent)
		checkState(t, l.d, c, j, was)
	}
}
