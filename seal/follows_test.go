package seal_test

import (
	"math/rand"
	"slices"
	"testing"

	"escutcheon/aead"
	"escutcheon/api"
	"escutcheon/disk"
	"escutcheon/seal"
)

// deed is a turn or a put of so many bytes.
type deed struct {
	isTurn bool
	n      int
}

// behind is what records are, once a deed was done, as the number tells.
func (a deed) behind(lines []line, number uint64, content []byte) []line {
	if a.isTurn {
		lines = nil
	}
	return append(slices.Clone(lines), line{number, content})
}

// life is a journal on its disk, what was answered of it, and what was on its way when it died.
type life struct {
	t     *testing.T
	d     *disk.Disk
	c     *seal.Counter
	lines []line
	onWay []line // nil: nothing was
}

func (l life) copied() life {
	l.d, l.c = l.d.Copy(), l.c.Copy()
	return l
}

// live opens what there is, and does deeds until the fuse ends it.
func (l *life) live(fuse int, deeds ...deed) {
	l.t.Helper()
	burns := l.c.Value() % base
	j := l.up()
	number := l.c.Value()/base + burns + 2
	l.d.SetFuse(fuse)
	for i, a := range deeds {
		content := some(a.n, int(number)*10+i)
		switch err := step(j, a.isTurn, content); err {
		case api.OK:
			l.lines = a.behind(l.lines, number, content)
		case api.ErrDisk:
			l.onWay = a.behind(l.lines, number, content)
			return
		default:
			l.t.Fatal(err)
		}
		number++
	}
}

// up opens what there is: it is what was answered, with what was on its way, or without it.
func (l *life) up() *seal.Journal {
	l.t.Helper()
	j := opened(l.t, l.d, l.c)
	got := changes(j)
	if j.Last() > 0 {
		got = append([]line{{j.Last() - uint64(len(got)), j.Snapshot()}}, got...)
	}
	switch {
	case slices.EqualFunc(got, l.lines, sameLine):
	case l.onWay != nil && slices.EqualFunc(got, l.onWay, sameLine):
		l.lines = l.onWay
	default:
		l.t.Fatalf("what comes up is neither what was answered, nor with what was on its way: %.300v", got)
	}
	l.onWay = nil
	return j
}

// fates are lists of picks: each write lost or not, the last one torn at all kinds of places, too.
func fates(writes int, tears []int) [][]int {
	all := [][]int{nil}
	for i := range writes {
		var more [][]int
		for _, picks := range all {
			for _, pick := range []int{0, 1} {
				more = append(more, append(slices.Clone(picks), pick))
			}
			if i == writes-1 {
				for _, tear := range tears {
					more = append(more, append(slices.Clone(picks), 3*tear+2))
				}
			}
		}
		all = more
	}
	return all
}

// P15.4: What was answered lasts, with what was on its way or without it, wherever the power goes, whatever is lost or torn, and wherever it goes once more while it comes up.
func TestWhatWasAnsweredLasts(t *testing.T) {
	deeds := []deed{{true, 30}, {false, 10}, {false, 600}, {true, 500}, {false, 0}, {true, 1200}, {false, 492}, {true, 0}, {false, 5}}
	tears := []int{0, 1, 7, 8, 9, 12, 20, 33, 100, 300, 511, 512}
	for fuse := range 30 {
		first := life{t: t, d: made(t, 8), c: seal.NewCounter()}
		first.live(fuse, deeds...)
		for _, picks := range fates(first.d.Unsynced(), tears) {
			second := first.copied()
			second.d.Crash(picks...)
			for again := range 5 {
				third := second.copied()
				third.live(again, deed{true, 600}, deed{false, 3})
				for _, picks := range fates(third.d.Unsynced(), []int{9, 100, 512}) {
					last := third.copied()
					last.d.Crash(picks...)
					last.live(100, deed{true, 40}, deed{false, 40})
					last.up()
				}
			}
		}
	}
}

// P15.4: Many lives, by chance: each comes up as what was answered, however often in a row the power goes while it does.
func TestManyLives(t *testing.T) {
	for seed := range int64(300) {
		x := rand.New(rand.NewSource(seed))
		l := life{t: t, d: made(t, 8+2*x.Intn(4)), c: seal.NewCounter()}
		for range 40 {
			deeds := []deed{{true, x.Intn(900)}}
			for range x.Intn(3) {
				deeds = append(deeds, deed{false, x.Intn(400)})
			}
			if x.Intn(3) == 0 {
				deeds = append(deeds, deed{true, x.Intn(900)}, deed{false, x.Intn(400)})
			}
			l.live(x.Intn(14), deeds...)
			picks := make([]int, l.d.Unsynced())
			for i := range picks {
				picks[i] = x.Intn(3 * 513)
			}
			l.d.Crash(picks...)
		}
		l.up()
	}
}

// past is what a disk was behind each call, from the first turn on, and what is now.
func past(t *testing.T, deeds ...deed) ([]*disk.Disk, life) {
	t.Helper()
	l := life{t: t, d: made(t, 8), c: seal.NewCounter()}
	was := []*disk.Disk{l.d.Copy()}
	j := l.up()
	for i, a := range deeds {
		content := some(a.n, i)
		checkErr(t, step(j, a.isTurn, content), api.OK)
		l.lines = a.behind(l.lines, uint64(i+2), content)
		was = append(was, l.d.Copy())
	}
	return was, l
}

var pasts = [][]deed{
	{{true, 30}},
	{{true, 30}, {false, 10}},
	{{true, 30}, {false, 600}},
	{{true, 30}, {false, 10}, {false, 10}, {false, 10}},
	{{true, 600}, {true, 600}},
	{{true, 30}, {false, 10}, {true, 10}},
	{{true, 30}, {false, 10}, {false, 10}, {true, 10}, {false, 30}, {true, 20}},
	{{true, 30}, {true, 30}, {true, 30}, {true, 30}},
	{{true, 30}, {false, 10}, {false, 10}, {true, 10}, {true, 10}, {false, 10}},
	{{true, 1200}, {true, 1200}, {true, 1200}, {false, 400}},
}

// P15.4: A disk that was put back to what it was ahead of any call that was answered: ErrTamper.
func TestPutBack(t *testing.T) {
	for _, deeds := range pasts {
		was, l := past(t, deeds...)
		for i, d := range was[:len(was)-1] {
			for _, burns := range []uint64{0, 1, 65534} {
				c := l.c.Copy()
				c.Raise(c.Value() + burns)
				checkRefused(t, d.Copy(), c, api.ErrTamper)
			}
			if t.Failed() {
				t.Fatal("it was put back by", len(was)-1-i)
			}
		}
		last := l.copied()
		last.up()
	}
}

// P15.4: Of which any blocks were put back to what they were at any time: it is what it is, or ErrTamper; never what it was.
func TestBlocksPutBack(t *testing.T) {
	for _, deeds := range pasts {
		was, l := past(t, deeds...)
		for _, old := range was {
			for blocks := range 1 << 8 {
				mixed := l.copied()
				for n := range 8 {
					if blocks>>n&1 == 1 {
						b, _ := old.Read(n)
						mixed.d.Write(n, b)
					}
				}
				mixed.d.Sync()
				if _, err := seal.Open(mixed.d.Copy(), mixed.c.Copy(), secret); err != api.ErrTamper {
					mixed.up()
				}
			}
		}
	}
}

// P15.4: Of which any blocks stand elsewhere, or were swapped: it is what it is, or ErrTamper.
func TestBlocksElsewhere(t *testing.T) {
	for _, deeds := range pasts {
		_, l := past(t, deeds...)
		for from := range 8 {
			for to := range 8 {
				for _, swapped := range []bool{true, false} {
					mixed := l.copied()
					a, _ := l.d.Read(from)
					b, _ := l.d.Read(to)
					mixed.d.Write(to, a)
					if swapped {
						mixed.d.Write(from, b)
					}
					mixed.d.Sync()
					if _, err := seal.Open(mixed.d.Copy(), mixed.c.Copy(), secret); err != api.ErrTamper {
						mixed.up()
					}
				}
			}
		}
		halves := l.copied() // and both halves
		for n := range 8 {
			b, _ := l.d.Read((n + 4) % 8)
			halves.d.Write(n, b)
		}
		halves.d.Sync()
		checkRefused(t, halves.d, halves.c, api.ErrTamper)
	}
}

// P15.4: Of which any byte was changed: where it is one of the current records, ErrTamper, else it is what it is.
func TestEachByteChanged(t *testing.T) {
	for _, deeds := range pasts[:9] {
		_, l := past(t, deeds...)
		half, ends := current(deeds)
		for at := range 8 * size {
			d := l.copied()
			d.d.Edit(at/size, at%size, byte(1+at%255))
			isRecord := false
			for _, end := range ends {
				isRecord = isRecord || at >= half*4*size+end[0] && at < half*4*size+end[1]
			}
			if isRecord {
				checkRefused(t, d.d, d.c, api.ErrTamper)
			} else {
				d.up()
			}
		}
	}
}

// current is the half that deeds end in, and from where to where each record goes in it.
func current(deeds []deed) (half int, ends [][2]int) {
	half = 1
	block := 0
	for _, a := range deeds {
		n := a.n + 20
		if a.isTurn {
			half, ends, block = 1-half, nil, 0
			n += 8
		}
		ends = append(ends, [2]int{block * size, block*size + n})
		block += (n + size - 1) / size
	}
	return half, ends
}

// P15.4: Bytes changed by chance, many at once: it is what it is, or ErrTamper.
func TestManyBytesChanged(t *testing.T) {
	tampered := 0
	for seed := range int64(3000) {
		x := rand.New(rand.NewSource(seed))
		_, l := past(t, pasts[x.Intn(len(pasts))]...)
		for range 1 + x.Intn(6) {
			l.d.Edit(x.Intn(8), x.Intn(60), byte(x.Intn(256)))
		}
		if _, err := seal.Open(l.d.Copy(), l.c.Copy(), secret); err == api.ErrTamper {
			tampered++
			continue
		}
		l.up()
	}
	if tampered < 300 || tampered > 2700 {
		t.Error(tampered, "of 3000 were found to be changed")
	}
}

// P15.4: What was on its way when the power went, and was saved then, is put back later: ErrTamper, as its number is below each commit behind it.
func TestWhatWasTriedIsPutBack(t *testing.T) {
	for _, isTurn := range []bool{true, false} {
		for tries := range 4 {
			l := life{t: t, d: made(t, 8), c: seal.NewCounter()}
			l.live(100, deed{true, 10}, deed{false, 10})
			j := opened(t, l.d, l.c)
			checkErr(t, j.Turn([]byte("b")), api.OK)
			l.lines = []line{{j.Last(), []byte("b")}}
			l.d.SetFuse(1)
			checkErr(t, step(j, isTurn, []byte("tried")), api.ErrDisk)
			var saved []*disk.Disk
			save := func() {
				was := l.d.Copy()
				was.Crash(1, 1, 1)
				saved = append(saved, was)
				l.d.Crash() // but here it is lost
			}
			save()
			for range tries {
				j := l.up()
				l.d.SetFuse(1)
				checkErr(t, j.Turn([]byte("tried again")), api.ErrDisk)
				save()
			}
			for i, was := range saved { // until the next commit any of them may come up
				j := opened(t, was.Copy(), l.c.Copy())
				if i > 0 && string(j.Snapshot()) != "tried again" || i == 0 && j.Last() != 6 {
					t.Error("what lasted does not come up", i, j.Last())
				}
			}
			checkErr(t, l.up().Turn([]byte("c")), api.OK)
			for _, was := range saved {
				checkRefused(t, was, l.c, api.ErrTamper)
			}
		}
	}
}

// P15.4: No number is sealed for two contents: of all that is tried, each has a number above those ahead of it, whatever of it lasts.
func TestEachTryHasANumberOfItsOwn(t *testing.T) {
	for seed := range int64(400) {
		x := rand.New(rand.NewSource(seed))
		d, c := made(t, 8), seal.NewCounter()
		tried := uint64(0)
		for range 30 {
			j := opened(t, d, c)
			d.SetFuse(x.Intn(7))
			for isFirst := true; !j.Dead(); isFirst = false {
				before := d.Copy()
				isTurn := isFirst || x.Intn(3) == 0
				if step(j, isTurn, some(3, x.Int())) == api.ErrFull {
					continue
				}
				number := numberOf(t, before, d)
				if number <= tried {
					t.Fatal("the number", number, "was tried again, behind", tried)
				}
				tried = number
			}
			d.Crash(x.Intn(3), x.Intn(3*513))
		}
	}
}

// numberOf is the number of the record that was written since: as the one number by which it is opened.
func numberOf(t *testing.T, before, d *disk.Disk) uint64 {
	t.Helper()
	key := newLaid(t, 4).key
	for n := range d.Blocks() {
		was, _ := before.Read(n)
		is, _ := d.Read(n)
		if string(was) == string(is) {
			continue
		}
		half := n / 4
		if n%4 == 0 {
			return uint64(is[7]) | uint64(is[6])<<8 | uint64(is[5])<<16 // in clear
		}
		first, _ := d.Read(half * 4)
		number := uint64(first[7]) | uint64(first[6])<<8 | uint64(first[5])<<16
		for at := range uint64(8) {
			if _, err := aead.Open(key, aead.Nonce(number+at), placeOf(number, half, false), is[4:4+3+16]); err == api.OK {
				return number + at
			}
		}
	}
	t.Fatal("nothing was written")
	return 0
}
