package seal_test

import (
	"math"
	"testing"

	"escutcheon/api"
	"escutcheon/disk"
	"escutcheon/hkdf"
	"escutcheon/seal"
)

// checkRefused opens what can't be: no journal, the counter and the disk as they were.
func checkRefused(t *testing.T, d *disk.Disk, c *seal.Counter, want api.Errno) {
	t.Helper()
	was, value := d.Copy(), c.Value()
	for range 2 {
		if j, err := seal.Open(d, c, secret); j != nil || err != want {
			t.Fatalf("Open: %v, %v; not %v", j != nil, err, want)
		}
		checkValue(t, c, value)
		if !d.Same(was) || d.Unsynced() != was.Unsynced() {
			t.Fatal("Open has changed the disk")
		}
	}
}

// P15.2: No disk, no counter: ErrNil, ahead of all.
func TestOpenOfNone(t *testing.T) {
	for _, d := range []*disk.Disk{nil, {}, made(t, 4), made(t, 1), made(t, 7)} {
		for _, c := range []*seal.Counter{nil, {}, seal.NewCounter(), raised(t, 0, 65535), raised(t, 5, 0)} {
			if d.Blocks() == 0 || c.Copy() == nil {
				checkRefused(t, d, c, api.ErrNil)
			}
		}
	}
}

// P15.2: Too few blocks, or an odd number: ErrArg, ahead of ErrTamper and ErrSpent.
func TestOpenOfADiskThatMayNotBe(t *testing.T) {
	counters := []*seal.Counter{seal.NewCounter(), raised(t, 0, 3), raised(t, 0, 65535), raised(t, 1, 0), raised(t, 9, 65535)}
	for _, blocks := range []int{1, 2, 3, 5, 7, 9, 511, 513, 8189, 8191} {
		for _, c := range counters {
			checkRefused(t, made(t, blocks), c, api.ErrArg)
		}
	}
	for _, blocks := range []int{4, 6, 8, 10, 512, 8190, 8192} {
		d, c := made(t, blocks), seal.NewCounter()
		checkJournal(t, opened(t, d, c), nil)
		checkValue(t, c, 1)
	}
}

// P15.2: A new disk comes up as nothing where the counter has no commit, however many burns.
func TestOpenOfANewDisk(t *testing.T) {
	for _, burns := range []uint64{0, 1, 2, 255, 256, 65533, 65534} {
		d, c := made(t, 4), raised(t, 0, burns)
		j := opened(t, d, c)
		checkJournal(t, j, nil)
		checkValue(t, c, burns+1)
		if j.Last() != 0 || j.Room() != 0 || j.Dead() || !d.Same(made(t, 4)) || d.Unsynced() != 0 {
			t.Error("a new journal:", j.Last(), j.Room(), j.Dead())
		}
		checkErr(t, j.Turn(nil), api.OK)
		checkValue(t, c, (burns+2)*base)
		if b, _ := d.Read(0); b[0] != 0 || j.Last() != burns+2 {
			t.Error("the snapshot's number is", j.Last())
		}
	}
}

// P15.2: A commit that nothing on the disk comes up to: ErrTamper, also where the burns are used up.
func TestOpenOfWhatIsGone(t *testing.T) {
	for _, commit := range []uint64{1, 2, 255, 256, 65535, 65536, 1 << 32, 1<<48 - 1} {
		for _, burns := range []uint64{0, 1, 65534, 65535} {
			checkRefused(t, made(t, 4), raised(t, commit, burns), api.ErrTamper)
			checkRefused(t, made(t, 8192), raised(t, commit, burns), api.ErrTamper)
		}
	}
	checkRefused(t, made(t, 4), raised(t, 1<<48-1, 65535), api.ErrTamper)
}

// P15.2: Each time that it comes up is a burn; the one behind the last one is ErrSpent, until a turn.
func TestBurns(t *testing.T) {
	for _, commit := range []uint64{0, 2, 3} {
		d, c := made(t, 4), seal.NewCounter()
		if commit > 0 {
			j := opened(t, d, c)
			checkErr(t, j.Turn([]byte("a")), api.OK)
			if commit == 3 {
				checkErr(t, j.Put([]byte("b")), api.OK)
			}
		}
		checkValue(t, c, commit*base)
		for burns := range uint64(5) {
			opened(t, d, c)
			checkValue(t, c, commit*base+burns+1)
		}
		checkErr(t, c.Raise(commit*base+65534), api.OK)
		last := opened(t, d, c)
		checkValue(t, c, commit*base+65535)
		checkRefused(t, d, c, api.ErrSpent)
		checkErr(t, last.Turn([]byte("c")), api.OK)
		checkValue(t, c, (commit+65534+2)*base)
		opened(t, d, c)
	}
}

// P15.2: As often as there are burns, and no more.
func TestAllBurns(t *testing.T) {
	d, c := made(t, 4), seal.NewCounter()
	for n := range api.MaxBurns {
		if _, err := seal.Open(d, c, secret); err != api.OK || c.Value() != uint64(n+1) {
			t.Fatal(n, err, c.Value())
		}
	}
	checkRefused(t, d, c, api.ErrSpent)
}

// P15.2: To come up takes no step of the disk; a dead one can be read.
func TestOpenTakesNoStep(t *testing.T) {
	d, c := made(t, 6), seal.NewCounter()
	checkErr(t, opened(t, d, c).Turn([]byte("a")), api.OK)
	d.SetFuse(1)
	j := opened(t, d, c)
	checkErr(t, d.Sync(), api.OK)
	checkErr(t, d.Sync(), api.ErrDisk)
	for range 2 {
		j = opened(t, d, c)
		checkJournal(t, j, []line{{2, []byte("a")}})
		if j.Dead() {
			t.Error("a journal that comes up from a dead disk has not failed yet")
		}
	}
	checkErr(t, j.Turn(nil), api.ErrDisk)
	checkErr(t, j.Turn(nil), api.ErrDead)
}

// P15.2: Another secret opens nothing; each bit of it counts.
func TestOpenByAnotherSecret(t *testing.T) {
	d, c := made(t, 4), seal.NewCounter()
	checkErr(t, opened(t, d, c).Turn([]byte("a")), api.OK)
	for bit := range 256 {
		other := secret
		other[bit/8] ^= 1 << (bit % 8)
		if j, err := seal.Open(d, c, other); j != nil || err != api.ErrTamper {
			t.Fatal("the bit", bit, "does not count")
		}
	}
	checkValue(t, c, 2*base)
	j, err := seal.Open(made(t, 4), seal.NewCounter(), api.Key{})
	checkErr(t, err, api.OK)
	checkErr(t, j.Turn([]byte("a")), api.OK)
}

// laid is a disk with records that the test lays on it, by the key of the secret.
type laid struct {
	t   *testing.T
	d   *disk.Disk
	key api.Key
	at  [2]int
}

func newLaid(t *testing.T, blocks int) *laid {
	return &laid{t: t, d: made(t, blocks), key: hkdf.Named(secret, "journal")}
}

// lay puts bytes behind what was laid in a half.
func (l *laid) lay(half int, b []byte) {
	l.t.Helper()
	for ; len(b) > 0; b = b[size:] {
		checkErr(l.t, l.d.Write(half*l.d.Blocks()/2+l.at[half], b[:size]), api.OK)
		l.at[half]++
	}
	checkErr(l.t, l.d.Sync(), api.OK)
}

// record lays one, of a number, of a half's first number.
func (l *laid) record(half int, number, first uint64, content []byte) {
	l.t.Helper()
	l.lay(half, recordOf(l.key, number, first, half, number == first, content))
}

// records lays a half's, from a number on, and answers them.
func (l *laid) records(half int, first uint64, n int) []line {
	l.t.Helper()
	var all []line
	for i := range n {
		number := first + uint64(i)
		content := some(i*100, half+int(first))
		l.record(half, number, first, content)
		all = append(all, line{number, content})
	}
	return all
}

// P15.2: Of both halves the one with the greater last is taken, if that is at least the commit, however each came to it; the turn goes into the other one.
func TestWhichHalfIsTaken(t *testing.T) {
	for counts := range 25 {
		for firsts := range 25 {
			n := [2]int{counts % 5, counts / 5}
			first := [2]uint64{uint64(1 + firsts%5), uint64(1 + firsts/5)}
			lasts := [2]int{int(first[0]) + n[0] - 1, int(first[1]) + n[1] - 1}
			for half := range 2 {
				if n[half] == 0 {
					lasts[half] = -1
				}
			}
			if lasts[0] == lasts[1] && n[0] > 0 {
				continue // nobody seals two records of one number
			}
			l := newLaid(t, 16)
			lines := [2][]line{l.records(0, first[0], n[0]), l.records(1, first[1], n[1])}
			taken := 1
			if lasts[0] > lasts[1] {
				taken = 0
			}
			checkTaken(t, l.d, lines[taken], taken, lasts[taken])
		}
	}
}

// checkTaken opens a disk with each commit: the half that is to be taken has these records, and this last (-1: nothing stands anywhere).
func checkTaken(t *testing.T, d *disk.Disk, lines []line, half, last int) {
	t.Helper()
	for commit := range 10 {
		on, c := d.Copy(), raised(t, uint64(commit), 1)
		if commit > max(0, last) {
			checkRefused(t, on, c, api.ErrTamper)
			continue
		}
		j := opened(t, on, c)
		checkJournal(t, j, lines)
		checkValue(t, c, uint64(commit)*base+2)
		if j.Last() != uint64(max(0, last)) || j.Room() != 0 {
			t.Fatal("last", j.Last(), "room", j.Room())
		}
		checkErr(t, j.Turn([]byte("x")), api.OK)
		if got := changedHalf(d, on); got != 1-half {
			t.Fatal("the half", half, "was taken, and the turn went to", got)
		}
		checkJournal(t, j, []line{{uint64(commit) + 3, []byte("x")}})
	}
}

// changedHalf is the one whose first block isn't as it was (-1: neither, or both).
func changedHalf(was, is *disk.Disk) int {
	changed := -1
	for n := range is.Blocks() {
		a, _ := was.Read(n)
		b, _ := is.Read(n)
		if string(a) != string(b) {
			if changed != -1 || n%(is.Blocks()/2) != 0 {
				return -1
			}
			changed = n / (is.Blocks() / 2)
		}
	}
	return changed
}

// P15.2: A record whose number is 0, or the greatest, is one as any other.
func TestOddNumbers(t *testing.T) {
	for half := range 2 {
		l := newLaid(t, 8)
		l.record(half, 0, 0, []byte("a"))
		checkTaken(t, l.d, []line{{0, []byte("a")}}, half, 0)
	}

	l := newLaid(t, 8)
	lines := l.records(1, math.MaxUint64-1, 2)
	j := opened(t, l.d, raised(t, 1<<48-1, 0))
	checkJournal(t, j, lines)
	if j.Last() != math.MaxUint64 {
		t.Error(j.Last())
	}
	l.record(1, math.MaxUint64, math.MaxUint64-1, nil)
	opened(t, l.d, raised(t, 1<<48-1, 0))
}
