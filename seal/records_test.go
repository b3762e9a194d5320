package seal_test

import (
	"slices"
	"testing"

	"escutcheon/aead"
	"escutcheon/api"
	"escutcheon/disk"
	"escutcheon/seal"
)

// checkUp opens a disk of no commit: it comes up as these records.
func checkUp(t *testing.T, d *disk.Disk, lines []line) *seal.Journal {
	t.Helper()
	j := opened(t, d, seal.NewCounter())
	checkJournal(t, j, lines)
	return j
}

// P15.2: A half's records are read in order, of all lengths about a block's end, up to the half's end.
func TestRecordsOfAllLengths(t *testing.T) {
	for half := range 2 {
		for _, n := range []int{0, 1, 15, 16, 17, 483, 484, 485, 491, 492, 493, 495, 496, 507, 508, 509, 511, 512, 513, 995, 996, 997, 1003, 1004, 1005, 1500} {
			l := newLaid(t, 40)
			var lines []line
			for i := range 4 {
				lines = append(lines, line{uint64(7 + i), some(n, i)})
				l.record(half, uint64(7+i), 7, lines[i].content)
			}
			checkUp(t, l.d, lines)
		}
	}
}

// P15.2: A record may fill its half, alone or with others ahead of it.
func TestRecordsThatFillTheirHalf(t *testing.T) {
	for half := range 2 {
		for _, blocks := range []int{4, 6, 10} {
			h := blocks / 2
			l := newLaid(t, blocks)
			whole := some(h*size-28, 1)
			l.record(half, 5, 5, whole)
			checkUp(t, l.d, []line{{5, whole}})

			l = newLaid(t, blocks)
			rest := some((h-1)*size-20, 2)
			l.record(half, 5, 5, some(484, 3))
			l.record(half, 6, 5, rest)
			checkUp(t, l.d, []line{{5, some(484, 3)}, {6, rest}})

			l = newLaid(t, blocks)
			checkUp(t, l.d, l.records(half, 5, h))
		}
	}
}

// P15.2: A record that goes beyond its half's end has no room, though it could be opened: what stands there is the other half's, or nothing.
func TestRecordsWithoutRoom(t *testing.T) {
	for _, n := range []int{493, 600, 1004} {
		l := newLaid(t, 8)
		lines := l.records(0, 5, 3)
		l.record(0, 8, 5, some(n, 1)) // of 2 blocks, but there is one
		checkUp(t, l.d, lines)
	}
	l := newLaid(t, 8)
	l.record(0, 5, 5, some(4*size-27, 1)) // a byte too much
	checkUp(t, l.d, nil)
	l = newLaid(t, 8)
	l.record(0, 5, 5, some(5*size, 1))
	checkUp(t, l.d, nil)

	for _, n := range []int{493, 505, 600} { // and at the disk's end, as far as it goes
		l = newLaid(t, 8)
		lines := l.records(1, 5, 3)
		l.lay(1, recordOf(l.key, 8, 5, 1, false, some(n, 1))[:size])
		checkUp(t, l.d, lines)
	}
}

// P15.2: Lengths that no record has: nothing is read, nothing panics.
func TestOddLengths(t *testing.T) {
	for half := range 2 {
		for _, length := range [][]byte{{255, 255, 255, 255}, {255, 255, 255, 240}, {255, 255, 255, 239}, {127, 255, 255, 255}, {128, 0, 0, 0}, {0, 1, 0, 0}, {0, 0, 8, 0}, {0, 0, 1, 236}, {0, 0, 1, 237}, {0, 0, 0, 9}, {0, 0, 0, 11}} {
			for at, want := range [][]line{nil, {{5, some(10, 1)}}, {{5, some(10, 1)}, {6, some(10, 1)}}} {
				l := newLaid(t, 6)
				for i := range 3 {
					b := recordOf(l.key, uint64(5+i), 5, half, i == 0, some(10, 1))
					if i == at {
						begin := 0
						if i == 0 {
							begin = 8
						}
						copy(b[begin:], length)
					}
					l.lay(half, b)
				}
				checkUp(t, l.d, want)
			}
		}
	}
}

// P15.2: What is sealed beside another place, or of another number, or by another key, is no record there.
func TestRecordsOfAnotherPlace(t *testing.T) {
	content := some(30, 1)
	for half := range 2 {
		l := newLaid(t, 8)
		other := l.key
		other[31] ^= 1
		for what, b := range map[string][]byte{
			"another first number":           recordOf(l.key, 7, 4, half, false, content),
			"its own as the first one":       recordOf(l.key, 7, 7, half, false, content),
			"the other half":                 recordOf(l.key, 7, 5, 1-half, false, content),
			"the first record's":             recordOf(l.key, 7, 5, half, true, content),
			"the first record's, bare":       append(recordOf(l.key, 7, 5, half, true, content)[8:], make([]byte, 8)...),
			"a snapshot":                     recordOf(l.key, 7, 7, half, true, content),
			"the number ahead":               recordOf(l.key, 6, 5, half, false, content),
			"the number behind":              recordOf(l.key, 8, 5, half, false, content),
			"the number of the first record": recordOf(l.key, 5, 5, half, false, content),
			"another key":                    recordOf(other, 7, 5, half, false, content),
			"noughts":                        make([]byte, size),
		} {
			l := newLaid(t, 8)
			lines := l.records(half, 5, 2)
			l.lay(half, b)
			l.record(half, 8, 5, content)
			checkUp(t, l.d, lines)
			if t.Failed() {
				t.Fatal(what)
			}
		}
	}
}

// P15.2: A snapshot that is sealed beside another place is none, and nothing behind it is read.
func TestSnapshotsOfAnotherPlace(t *testing.T) {
	content := some(30, 1)
	for half := range 2 {
		l := newLaid(t, 8)
		clear := func(b []byte, number byte) []byte { return append([]byte{0, 0, 0, 0, 0, 0, 0, number}, b[8:]...) }
		for what, b := range map[string][]byte{
			"the other half":                   recordOf(l.key, 5, 5, 1-half, true, content),
			"another first number":             clear(recordOf(l.key, 5, 4, half, true, content), 5),
			"another number":                   clear(recordOf(l.key, 4, 5, half, true, content), 5),
			"another number in clear":          clear(recordOf(l.key, 5, 5, half, true, content), 4),
			"a change":                         append(make([]byte, 7), append([]byte{5}, recordOf(l.key, 5, 5, half, false, content)[:size-8]...)...),
			"a change, without its number":     recordOf(l.key, 5, 5, half, false, content),
			"a snapshot, without its number":   append(recordOf(l.key, 5, 5, half, true, content)[8:], make([]byte, 8)...),
			"a number with a byte put ahead":   append([]byte{0}, recordOf(l.key, 5, 5, half, true, content)[:size-1]...),
			"nothing":                          make([]byte, size),
			"nothing, but a number":            clear(make([]byte, size), 5),
			"nothing, but a number and length": append(clear(make([]byte, 11), 5), append([]byte{30}, make([]byte, size-12)...)...),
		} {
			l := newLaid(t, 8)
			l.lay(half, b)
			l.record(half, 6, 5, content)
			checkUp(t, l.d, nil)
			lines := l.records(1-half, 3, 2) // but the other half is
			checkUp(t, l.d, lines)
			if t.Failed() {
				t.Fatal(what)
			}
		}
	}
}

// P15.2: A change stands right behind the one ahead of it: not a block later, not over its last one.
func TestChangesRightBehind(t *testing.T) {
	for half := range 2 {
		l := newLaid(t, 12)
		lines := l.records(half, 5, 2)
		l.at[half]++
		l.record(half, 7, 5, some(9, 9))
		checkUp(t, l.d, lines)

		l = newLaid(t, 12)
		l.record(half, 5, 5, some(600, 1)) // of 2 blocks, the last one of which another record takes
		l.at[half]--
		l.record(half, 6, 5, some(9, 9))
		checkUp(t, l.d, nil)

		l = newLaid(t, 12)
		l.at[half]++ // not from the half's first block on
		l.records(half, 5, 2)
		checkUp(t, l.d, nil)
	}
}

// P15.2: Once one can't be opened, none behind it is: each of them in turn.
func TestWhatIsBehindABrokenOne(t *testing.T) {
	for half := range 2 {
		for broken := range 5 {
			l := newLaid(t, 12)
			lines := l.records(half, 5, 5)
			l.d.Edit(half*6+broken, 13, 1)
			checkUp(t, l.d, lines[:broken])
		}
	}
}

// P15.2: What an elder use of the half left behind the snapshot is no change of it, even where its number is the one that is due.
func TestOldRecordsBehindANewSnapshot(t *testing.T) {
	l := newLaid(t, 8)
	l.records(0, 2, 4) // 2 3 4 5
	for _, first := range []uint64{3, 4, 5, 2} {
		on := &laid{t: t, d: l.d.Copy(), key: l.key}
		on.record(0, first, first, some(5, 5)) // the next one is first + 1, which stands there, but of another snapshot
		want := []line{{first, some(5, 5)}}
		if first == 2 {
			want = append(want, line{3, some(100, 2)}, line{4, some(200, 2)}, line{5, some(300, 2)})
		}
		checkUp(t, on.d, want)
	}

	d, c := made(t, 8), seal.NewCounter()
	j := opened(t, d, c)
	for i, n := range []int{10, 3, 600, 1, 30, 0} { // fewer records each time, so that old ones stand behind them
		lines := []line{{j.Last() + 1, some(n, i)}}
		if i == 0 {
			lines[0].number = 2
		}
		checkErr(t, j.Turn(lines[0].content), api.OK)
		for k := range 2 - i/2 {
			lines = append(lines, line{j.Last() + 1, some(20, k)})
			checkErr(t, j.Put(some(20, k)), api.OK)
		}
		checkJournal(t, opened(t, d.Copy(), c.Copy()), lines)
	}
}

// P15.2: What stands behind a record in its last block is not looked at; each byte of the record is.
func TestEachByteOfARecord(t *testing.T) {
	l := newLaid(t, 4)
	lines := []line{{5, some(20, 1)}, {6, some(9, 2)}}
	for i, line := range lines {
		l.record(1, line.number, 5, lines[i].content)
	}
	for at := range 2 * size {
		for _, x := range []byte{1, 128} {
			d := l.d.Copy()
			d.Edit(2+at/size, at%size, x)
			switch {
			case at < 48:
				checkUp(t, d, nil)
			case at >= size && at < size+29:
				checkUp(t, d, lines[:1])
			default:
				checkUp(t, d, lines)
			}
			if t.Failed() {
				t.Fatal("the byte", at)
			}
		}
	}
}

// The records that a journal writes are those that the chapter tells, byte by byte; its nonce and its place are no others.
func TestBytesOfRecords(t *testing.T) {
	d, c := made(t, 8), seal.NewCounter()
	j := opened(t, d, c)
	checkErr(t, j.Turn([]byte("snap")), api.OK)
	checkErr(t, j.Put([]byte("change")), api.OK)
	l := newLaid(t, 8)
	checkBytes(t, d, 0, slices.Concat([]byte{0, 0, 0, 0, 0, 0, 0, 2, 0, 0, 0, 4}, aead.Seal(l.key, [12]byte{4: 2}, []byte{0, 0, 0, 0, 0, 0, 0, 2, 0, 1}, []byte("snap"))))
	checkBytes(t, d, 1, slices.Concat([]byte{0, 0, 0, 6}, aead.Seal(l.key, [12]byte{4: 3}, []byte{0, 0, 0, 0, 0, 0, 0, 2, 0, 0}, []byte("change"))))
	checkBytes(t, d, 2, nil)
	checkErr(t, j.Turn([]byte("again")), api.OK)
	checkErr(t, j.Put(nil), api.OK)
	checkBytes(t, d, 4, slices.Concat([]byte{0, 0, 0, 0, 0, 0, 0, 4, 0, 0, 0, 5}, aead.Seal(l.key, [12]byte{4: 4}, []byte{0, 0, 0, 0, 0, 0, 0, 4, 1, 1}, []byte("again"))))
	checkBytes(t, d, 5, slices.Concat([]byte{0, 0, 0, 0}, aead.Seal(l.key, [12]byte{4: 5}, []byte{0, 0, 0, 0, 0, 0, 0, 4, 1, 0}, nil)))
	checkBytes(t, d, 6, nil)
	checkBytes(t, d, 7, nil)
}

// checkBytes says whether a block has just these bytes, and noughts behind them.
func checkBytes(t *testing.T, d *disk.Disk, n int, want []byte) {
	t.Helper()
	got, err := d.Read(n)
	if err != api.OK || !slices.Equal(got, append(want, make([]byte, size-len(want))...)) {
		t.Errorf("block %d: %v, %v", n, err, got)
	}
}
