package wire_test

import (
	"bytes"
	"math"
	"math/rand"
	"slices"
	"sync"
	"testing"

	"escutcheon/api"
	"escutcheon/wire"
)

func TestExamplesOfTheChapter(t *testing.T) {
	if b, err := wire.Put(258, 3); err != api.OK || !bytes.Equal(b, []byte{0, 1, 2}) {
		t.Error("Put(258, 3)", b, err)
	}
	if b, err := wire.Put(256, 1); err != api.ErrArg || len(b) != 0 {
		t.Error("Put(256, 1)", b, err)
	}
	if n, err := wire.Get([]byte{0, 1, 2}); err != api.OK || n != 258 {
		t.Error("Get(0 1 2)", n, err)
	}
	r := wire.Read([]byte{0, 2, 7, 8, 9})
	if b, n := r.Blob(), r.Number(1); !bytes.Equal(b, []byte{7, 8}) || n != 9 || r.End() != api.OK {
		t.Error("Read(0 2 7 8 9)", b, n, r.End())
	}
}

// part is something that can be put, and read again.
type part struct {
	put  []byte
	read func(r *wire.Reader) bool
}

func randomPart(x *rand.Rand) part {
	switch x.Intn(4) {
	case 0:
		size := 1 + x.Intn(8)
		n := x.Uint64() >> (64 - 8*size)
		b, _ := wire.Put(n, size)
		return part{b, func(r *wire.Reader) bool { return r.Number(size) == n }}
	case 1:
		b := some(x.Intn(400))
		blob, _ := wire.Blob(b)
		return part{blob, func(r *wire.Reader) bool { return bytes.Equal(r.Blob(), b) }}
	case 2:
		var k api.Key
		x.Read(k[:])
		return part{k[:], func(r *wire.Reader) bool { return r.Key() == k }}
	}
	b := some(x.Intn(40))
	return part{b, func(r *wire.Reader) bool { return bytes.Equal(r.Bytes(len(b)), b) }}
}

func TestWhatWasPutIsReadAgain(t *testing.T) {
	x := rand.New(rand.NewSource(1))
	for range 300 {
		var parts []part
		var all [][]byte
		for range x.Intn(12) {
			p := randomPart(x)
			parts, all = append(parts, p), append(all, p.put)
		}
		r := wire.Read(wire.Join(all...))
		for i, p := range parts {
			if !p.read(r) {
				t.Fatal("part", i, "of", len(parts), "is another one")
			}
		}
		if r.End() != api.OK || r.Left() != 0 {
			t.Fatal("behind the last part", r.End(), r.Left())
		}
	}
}

func TestNumbersStandInTheirOrder(t *testing.T) {
	x := rand.New(rand.NewSource(2))
	for size := 1; size <= 8; size++ {
		greatest := uint64(math.MaxUint64) >> (64 - 8*size)
		numbers := []uint64{0, 1, 127, 128, 255, greatest, greatest - 1, greatest/2 + 1, greatest / 2}
		for range 50 {
			numbers = append(numbers, x.Uint64()&greatest>>x.Intn(8*size))
		}
		slices.Sort(numbers)
		for i, n := range slices.Compact(numbers) {
			b, err := wire.Put(n, size)
			if back, errBack := wire.Get(b); err != api.OK || errBack != api.OK || back != n || len(b) != size {
				t.Fatalf("Get(Put(%d, %d)) = %d, %v, %v", n, size, back, err, errBack)
			}
			if i > 0 {
				if below, _ := wire.Put(numbers[i-1], size); bytes.Compare(below, b) >= 0 {
					t.Fatalf("%d and %d of size %d: %v, %v", numbers[i-1], n, size, below, b)
				}
			}
		}
	}
}

// TestBlobsArePartedInOneWay goes through all lists of at most three short blobs: no two lists come to the same bytes.
func TestBlobsArePartedInOneWay(t *testing.T) {
	contents := [][]byte{nil}
	for _, x := range []byte{0, 1, 2} {
		contents = append(contents, []byte{x})
		for _, y := range []byte{0, 1, 2} {
			contents = append(contents, []byte{x, y}, []byte{0, x, y})
		}
	}
	seen := map[string]bool{}
	lists := 0
	var goOn func(deep int, all []byte)
	goOn = func(deep int, all []byte) {
		lists++
		seen[string(all)] = true
		if deep == 3 {
			return
		}
		for _, c := range contents {
			blob, err := wire.Blob(c)
			if err != api.OK {
				t.Fatal(err)
			}
			goOn(deep+1, wire.Join(all, blob))
		}
	}
	goOn(0, nil)
	if len(seen) != lists {
		t.Errorf("%d lists, %d byte strings", lists, len(seen))
	}
}

// What is handed in stays as it was, what is answered is apart from it.

func TestArgumentsStay(t *testing.T) {
	room := some(40)
	a, b := room[:3], room[10:14] // behind a there is room, in which the caller has other bytes
	parts := [][]byte{a, b, nil}
	wire.Get(a)
	blob, _ := wire.Blob(a)
	all := wire.Join(parts...)
	wire.Hex(a)
	r := wire.Read(a)
	r.Bytes(2)
	r.Number(1)
	for _, answer := range [][]byte{blob, all, wire.Join(a), wire.Join(a, nil), wire.Join(nil, a)} {
		clear(answer)
		_ = append(answer, 77, 77, 77)
	}
	if !bytes.Equal(room, some(40)) || len(parts) != 3 || !bytes.Equal(parts[0], some(3)) || parts[2] != nil {
		t.Error("an argument was changed", room, parts)
	}
}

func TestAnswersAreNew(t *testing.T) {
	a := some(6)
	blob, _ := wire.Blob(a)
	one, two := wire.Join(a), wire.Join(a, a)
	clear(a)
	if !bytes.Equal(blob[2:], some(6)) || !bytes.Equal(one, some(6)) || !bytes.Equal(two, append(some(6), some(6)...)) {
		t.Error("an answer is part of an argument", blob, one, two)
	}
	first, _ := wire.Put(258, 2)
	clear(first)
	if again, _ := wire.Put(258, 2); !bytes.Equal(again, []byte{1, 2}) {
		t.Error("Put answers the same memory again")
	}
	of, _ := wire.OfHex("0a0b")
	clear(of)
	if again, _ := wire.OfHex("0a0b"); !bytes.Equal(again, []byte{10, 11}) {
		t.Error("OfHex answers the same memory again")
	}
}

func TestReaderHasACopy(t *testing.T) {
	b := append([]byte{0, 4}, some(40)...)
	r := wire.Read(b)
	clear(b)
	if x := r.Blob(); !bytes.Equal(x, some(4)) {
		t.Error("Read did not copy", x)
	}
	if x := r.Bytes(36); !bytes.Equal(x, some(40)[4:]) || r.End() != api.OK {
		t.Error("Read did not copy", x, r.End())
	}
}

func TestPartsOfAReaderAreApart(t *testing.T) {
	b := wire.Join([]byte{0, 3, 1, 2, 3}, []byte{4, 5, 6}, some(32))
	r := wire.Read(b)
	blob := r.Blob()
	_ = append(blob, 99, 99, 99, 99)
	part := r.Bytes(3)
	_ = append(part, 99, 99, 99, 99)
	clear(part)
	clear(blob)
	_ = append(r.Bytes(0), 99, 99)
	if k := r.Key(); k != api.Key(some(32)) || r.End() != api.OK {
		t.Error("what was appended to a part is read behind it", k)
	}
}

// TestAnswersHangOnArgumentsAlone asks from many goroutines at once, of bytes that all of them share.
func TestAnswersHangOnArgumentsAlone(t *testing.T) {
	shared, _ := wire.Blob(some(900))
	text := wire.Hex(shared)
	var wait sync.WaitGroup
	for range 8 {
		wait.Go(func() {
			for range 50 {
				r := wire.Read(shared)
				blob := r.Blob()
				back, err := wire.OfHex(text)
				if !bytes.Equal(blob, some(900)) || r.End() != api.OK || err != api.OK || !bytes.Equal(back, shared) || wire.Hex(shared) != text {
					t.Error("another answer")
				}
			}
		})
	}
	wait.Wait()
}

// TestNoCallPanics gives all calls odd arguments, in any order: a panic ends the test.
func TestNoCallPanics(t *testing.T) {
	x := rand.New(rand.NewSource(3))
	ints := append([]int{0, 1, 2, 3, 7, 8, 9, 31, 32, 33, 255, 256}, oddInts...)
	for range 20000 {
		b := make([]byte, x.Intn(70))
		for i := range b {
			b[i] = byte(x.Intn(3) * x.Intn(128))
		}
		readers := []*wire.Reader{wire.Read(b), nil, {}}
		r := readers[max(0, x.Intn(20)-17)]
		for range x.Intn(8) {
			askOne(x, r, ints[x.Intn(len(ints))])
		}
		wire.Put(x.Uint64()>>x.Intn(64), ints[x.Intn(len(ints))])
		wire.Get(b)
		wire.Blob(b)
		if s, err := wire.OfHex(string(b)); err != api.OK && len(s) != 0 {
			t.Fatal("an answer beside an error", s)
		}
	}
}

func askOne(x *rand.Rand, r *wire.Reader, n int) {
	switch x.Intn(5) {
	case 0:
		r.Number(n)
	case 1:
		r.Bytes(n)
	case 2:
		r.Blob()
	case 3:
		r.Key()
	default:
		r.End()
		r.Left()
	}
}
