package seal_test

import (
	"bytes"
	"math/rand"
	"slices"
	"sync"
	"testing"

	"escutcheon/api"
	"escutcheon/disk"
	"escutcheon/seal"
)

// A nil journal and a zero one are ErrNil, ahead of all, and have nothing.
func TestNoJournal(t *testing.T) {
	for _, j := range []*seal.Journal{nil, {}} {
		for range 2 {
			for _, b := range [][]byte{nil, {}, some(3, 1), make([]byte, 100000)} {
				checkErr(t, j.Turn(b), api.ErrNil)
				checkErr(t, j.Put(b), api.ErrNil)
			}
			if j.Snapshot() != nil || j.Last() != 0 || j.Room() != 0 || j.Dead() {
				t.Error("of none:", j.Snapshot(), j.Last(), j.Room(), j.Dead())
			}
			if seq := j.Changes(); seq == nil {
				t.Error("of none there is nothing that can be gone over")
			}
			checkJournal(t, j, nil)
		}
	}
}

// P15.2: Changes are gone over in order, may be left at any of them, and gone through as often as one likes, also within one another.
func TestChanges(t *testing.T) {
	_, _, j := turned(t, 20, []byte("a"))
	var want []line
	for i := range 7 {
		want = append(want, line{uint64(3 + i), some(10*i, i)})
		checkErr(t, j.Put(want[i].content), api.OK)
	}
	seq := j.Changes()
	for range 2 {
		for leave := range 9 {
			var got []line
			for number, content := range seq {
				if len(got) == leave {
					break
				}
				got = append(got, line{number, content})
				if inner := changes(j); len(inner) != 7 {
					t.Fatal("within one another:", inner)
				}
			}
			if !slices.EqualFunc(got, want[:min(leave, 7)], sameLine) {
				t.Fatal("left behind", leave, got)
			}
		}
	}
}

// P15.2: What is gone over is what there was when it was asked for: what is put or turned on the way is no part of it.
func TestChangesOnTheWay(t *testing.T) {
	_, _, j := turned(t, 40, []byte("a"))
	for i := range 3 {
		checkErr(t, j.Put(some(4, i)), api.OK)
	}
	seq := j.Changes()
	n := 0
	for number, content := range seq {
		if number != uint64(3+n) || !bytes.Equal(content, some(4, n)) {
			t.Fatal("the change", number)
		}
		checkErr(t, j.Put(some(5, 9)), api.OK)
		if n == 1 {
			checkErr(t, j.Turn(nil), api.OK)
		}
		n++
	}
	again := 0
	for range seq {
		again++
	}
	if n != 3 || again != 3 || len(changes(j)) != 1 {
		t.Error(n, again, len(changes(j)))
	}
}

// What is handed in is not changed, not kept, and nothing behind it in its memory is.
func TestArgumentsStay(t *testing.T) {
	d, c := made(t, 12), seal.NewCounter()
	j := opened(t, d, c)
	for i, n := range []int{0, 1, 16, 464, 484, 485, 1000} {
		room := some(n+600, i)
		was := bytes.Clone(room)
		checkErr(t, j.Turn(room[:n]), api.OK)
		checkErr(t, j.Put(room[:n]), api.OK)
		if !bytes.Equal(room, was) {
			t.Fatal("what is handed in has changed")
		}
		clear(room)
		number := j.Last() - 1
		for _, j := range []*seal.Journal{j, opened(t, d.Copy(), c.Copy())} {
			checkJournal(t, j, []line{{number, was[:n]}, {number + 1, was[:n]}})
		}
	}
}

// What is answered is new memory, each time: of a journal that came up, and of one that went on.
func TestAnswersShareNothing(t *testing.T) {
	d, c, j := turned(t, 12, some(30, 1))
	checkErr(t, j.Put(some(40, 2)), api.OK)
	checkErr(t, j.Put(some(50, 3)), api.OK)
	want := []line{{2, some(30, 1)}, {3, some(40, 2)}, {4, some(50, 3)}}
	for _, j := range []*seal.Journal{j, opened(t, d, c)} {
		for range 2 {
			spoil := func(b []byte) {
				for i := range b[:cap(b)] {
					b[:cap(b)][i] ^= 255
				}
			}
			one := j.Snapshot()
			other := j.Snapshot()
			spoil(one)
			if !bytes.Equal(other, want[0].content) {
				t.Fatal("snapshots hang on each other")
			}
			for _, content := range j.Changes() {
				spoil(content)
			}
			checkJournal(t, j, want)
		}
	}
}

// The disk and the counter are the caller's: the journal goes on with just them, and with no copy.
func TestTheDiskAndTheCounterAreTheCallers(t *testing.T) {
	d, c := made(t, 8), seal.NewCounter()
	j := opened(t, d, c)
	elsewhere, counter := d.Copy(), c.Copy()
	checkErr(t, j.Turn([]byte("a")), api.OK)
	if !elsewhere.Same(made(t, 8)) || d.Same(elsewhere) {
		t.Error("the journal writes elsewhere")
	}
	checkValue(t, counter, 1)
	checkValue(t, c, 2*base)
	d.Edit(0, 30, 1) // what the journal tells is what was turned and put, not what somebody makes of the disk
	checkJournal(t, j, []line{{2, []byte("a")}})
	d.Edit(0, 14, 1)
	checkJournal(t, j, []line{{2, []byte("a")}})
	checkRefused(t, d, c, api.ErrTamper)
}

// Journals have nothing in common, also of one secret.
func TestJournalsAreApart(t *testing.T) {
	d1, c1, one := turned(t, 8, []byte("a"))
	d2, c2, other := turned(t, 10, []byte("b"))
	checkErr(t, one.Put([]byte("c")), api.OK)
	d2.SetFuse(0)
	checkErr(t, other.Put([]byte("d")), api.ErrDisk)
	checkErr(t, one.Put([]byte("e")), api.OK)
	d2.Crash()
	checkJournal(t, opened(t, d1, c1), []line{{2, []byte("a")}, {3, []byte("c")}, {4, []byte("e")}})
	checkJournal(t, opened(t, d2, c2), []line{{2, []byte("b")}})
	if one.Dead() || !other.Dead() {
		t.Error("dead:", one.Dead(), other.Dead())
	}
}

// The same calls come to the same, whenever they are made.
func TestNothingHangsOnChance(t *testing.T) {
	play := func() ([]*disk.Disk, []uint64) {
		x := rand.New(rand.NewSource(5))
		b := newBoth(t, 12)
		b.open()
		var disks []*disk.Disk
		var values []uint64
		for i := range 200 {
			if b.act(x, i); !b.p.isOpen {
				break
			}
			disks, values = append(disks, b.d.Copy()), append(values, b.c.Value())
		}
		return disks, values
	}
	one, values := play()
	other, again := play()
	if !slices.Equal(values, again) || !slices.EqualFunc(one, other, (*disk.Disk).Same) {
		t.Error("the same calls come to something else")
	}
}

// Many may look at one journal at a time.
func TestManyLookAtATime(t *testing.T) {
	d, c, j := turned(t, 12, some(30, 1))
	checkErr(t, j.Put(some(40, 2)), api.OK)
	want := []line{{2, some(30, 1)}, {3, some(40, 2)}}
	var workers sync.WaitGroup
	for range 8 {
		workers.Go(func() {
			for range 100 {
				if got := append([]line{{2, j.Snapshot()}}, changes(j)...); !slices.EqualFunc(got, want, sameLine) {
					t.Error("many that look see something else")
				}
				if j.Last() != 3 || j.Room() != 4*size-20 || j.Dead() || c.Value() != 3*base || c.Copy().Value() != 3*base {
					t.Error("many that look see something else")
				}
				if again, err := seal.Open(d.Copy(), c.Copy(), secret); err != api.OK || again.Last() != 3 {
					t.Error("a copy does not come up", err)
				}
			}
		})
	}
	workers.Wait()
}

// TestNoCallPanics gives all calls odd arguments, on disks whose bytes are odd ones: a panic ends the test.
func TestNoCallPanics(t *testing.T) {
	x := rand.New(rand.NewSource(6))
	disks := []*disk.Disk{nil, {}, made(t, 1), made(t, 3), made(t, 4), made(t, 6), made(t, 7), made(t, 12)}
	counters := []*seal.Counter{nil, {}, seal.NewCounter(), raised(t, 0, 65530), raised(t, 7, 0)}
	journals := []*seal.Journal{nil, {}}
	for range 20000 {
		d, c := disks[x.Intn(len(disks))], counters[x.Intn(len(counters))]
		j := journals[x.Intn(len(journals))]
		seal.Need(int(x.Uint64()) >> x.Intn(64))
		d.Edit(x.Intn(12), x.Intn(20), byte(x.Intn(256)))
		d.SetFuse(x.Intn(20))
		if x.Intn(5) == 0 {
			d.Crash(x.Intn(9), x.Intn(9))
		}
		if x.Intn(50) == 0 {
			c.Raise(x.Uint64() >> x.Intn(64))
		}
		if opened, err := seal.Open(d, c, api.Key{byte(x.Intn(2))}); (opened == nil) != (err != api.OK) {
			t.Fatal("a journal beside an error, or none", err)
		} else if opened != nil && len(journals) < 200 {
			journals = append(journals, opened)
			counters = append(counters, seal.NewCounter())
			disks = append(disks, made(t, 4+2*x.Intn(4)))
		}
		j.Turn(make([]byte, x.Intn(1500)))
		j.Put(make([]byte, x.Intn(1500)))
		for range j.Changes() {
			if x.Intn(2) == 0 {
				break
			}
		}
		j.Snapshot()
		j.Last()
		j.Room()
		j.Dead()
		c.Value()
		c.Copy().Raise(x.Uint64())
	}
}
