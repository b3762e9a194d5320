package wire_test

import (
	"bytes"
	"math"
	"strconv"
	"testing"

	"escutcheon/api"
	"escutcheon/wire"
)

func TestReaderGoesOnFromPartToPart(t *testing.T) {
	key := api.Key(some(32))
	all := wire.Join([]byte{7}, []byte{0, 3}, []byte("abc"), key[:], []byte{1, 2, 3, 4, 5, 6, 7, 8}, []byte{0, 0}, []byte{9, 8, 7})
	r := wire.Read(all)
	left := len(all)
	step := func(name string, took int, right bool) {
		t.Helper()
		left -= took
		if !right || r.Left() != left {
			t.Errorf("%s: right is %v, left are %d of %d", name, right, r.Left(), left)
		}
		if want := map[bool]api.Errno{true: api.OK, false: api.ErrBytes}[left == 0]; r.End() != want {
			t.Errorf("%s: End = %v", name, r.End())
		}
	}
	step("begin", 0, true)
	step("Number(1)", 1, r.Number(1) == 7)
	step("Blob", 5, string(r.Blob()) == "abc")
	step("Key", 32, r.Key() == key)
	step("Number(8)", 8, r.Number(8) == 0x0102030405060708)
	step("Blob of none", 2, len(r.Blob()) == 0)
	step("Bytes(0)", 0, len(r.Bytes(0)) == 0)
	step("Bytes(2)", 2, bytes.Equal(r.Bytes(2), []byte{9, 8}))
	step("Bytes(1)", 1, bytes.Equal(r.Bytes(1), []byte{7}))
	step("Bytes(0) at the end", 0, len(r.Bytes(0)) == 0)
}

func TestNumberOfEachSize(t *testing.T) {
	b := []byte{129, 2, 3, 4, 5, 6, 7, 8}
	for size := 1; size <= 8; size++ {
		want, _ := wire.Get(b[:size])
		r := wire.Read(b)
		if n := r.Number(size); n != want || r.Left() != 8-size {
			t.Errorf("Number(%d) = %d, left %d", size, n, r.Left())
		}
		r = wire.Read(b[:size])
		if n := r.Number(size); n != want || r.End() != api.OK {
			t.Errorf("Number(%d) of just so many = %d, %v", size, n, r.End())
		}
		r = wire.Read(b[:size-1])
		if n := r.Number(size); n != 0 || !hasFailed(r) {
			t.Errorf("Number(%d) of one fewer = %d, %v", size, n, r.End())
		}
	}
}

func TestReadOfNoBytes(t *testing.T) {
	for _, b := range [][]byte{nil, {}} {
		r := wire.Read(b)
		if r == nil || r.End() != api.OK || r.Left() != 0 {
			t.Fatal("no reader of no bytes")
		}
		if x := r.Bytes(0); len(x) != 0 || r.End() != api.OK {
			t.Errorf("Bytes(0) = %v, %v", x, r.End())
		}
		if n := r.Number(1); n != 0 || !hasFailed(r) {
			t.Errorf("Number(1) = %d, %v", n, r.End())
		}
	}
}

func TestReaderReadsTheLastOfEach(t *testing.T) {
	whole := func(name string, b []byte, ask func(r *wire.Reader) []byte, want, none []byte) {
		t.Helper()
		r := wire.Read(b)
		if x := ask(r); !bytes.Equal(x, want) || r.End() != api.OK || r.Left() != 0 {
			t.Errorf("%s of all: %v, %v", name, x, r.End())
		}
		for n := range len(b) {
			r := wire.Read(b[:n])
			if x := ask(r); !bytes.Equal(x, none) || !hasFailed(r) {
				t.Errorf("%s of %d of %d: %v, %v", name, n, len(b), x, r.End())
			}
		}
	}
	askKey := func(r *wire.Reader) []byte { k := r.Key(); return k[:] }
	whole("Key", some(32), askKey, some(32), make([]byte, 32))
	whole("Bytes", some(5), func(r *wire.Reader) []byte { return r.Bytes(5) }, some(5), nil)
	whole("Blob", append([]byte{1, 1}, some(257)...), (*wire.Reader).Blob, some(257), nil)
	whole("empty Blob", []byte{0, 0}, (*wire.Reader).Blob, nil, nil)
	r := wire.Read(append([]byte{255, 255}, some(65535)...))
	if x := r.Blob(); !bytes.Equal(x, some(65535)) || r.End() != api.OK {
		t.Errorf("the greatest Blob: %d bytes, %v", len(x), r.End())
	}
}

func TestReaderFails(t *testing.T) {
	asks := map[string]func(r *wire.Reader) bool{
		"Number(0)": func(r *wire.Reader) bool { return r.Number(0) == 0 },
		"Number(9)": func(r *wire.Reader) bool { return r.Number(9) == 0 },
		"Bytes(41)": func(r *wire.Reader) bool { return len(r.Bytes(41)) == 0 },
		"Blob":      func(r *wire.Reader) bool { return len(r.Blob()) == 0 },
		"Key twice": func(r *wire.Reader) bool { r.Key(); return r.Key() == api.Key{} },
	}
	for _, n := range oddInts {
		asks["Number("+strconv.Itoa(n)+")"] = func(r *wire.Reader) bool { return r.Number(n) == 0 }
		asks["Bytes("+strconv.Itoa(n)+")"] = func(r *wire.Reader) bool { return len(r.Bytes(n)) == 0 }
	}
	for name, ask := range asks {
		r := wire.Read(append([]byte{0, 39}, some(38)...)) // 40 bytes, of which no blob is whole
		if !ask(r) || !hasFailed(r) {
			t.Errorf("%s: did not fail", name)
		}
		if !readsNothing(r) || !hasFailed(r) {
			t.Errorf("%s: did not stay so", name)
		}
	}
}

func TestReaderFailsOnceBehindWhatItRead(t *testing.T) {
	r := wire.Read([]byte{1, 2, 3})
	if r.Number(1) != 1 || r.Number(3) != 0 || !hasFailed(r) || !readsNothing(r) {
		t.Error("what is left after a failure must not be read")
	}
}

func TestNilAndZeroReaders(t *testing.T) {
	for name, r := range map[string]*wire.Reader{"nil": nil, "zero": {}} {
		for range 2 { // what failed on it the first time has left it as it was
			if r.End() != api.ErrNil || r.Left() != 0 || !readsNothing(r) {
				t.Errorf("%s: End = %v, Left = %d", name, r.End(), r.Left())
			}
		}
		for _, n := range append([]int{0, 1, 9}, oddInts...) {
			if r.Number(n) != 0 || len(r.Bytes(n)) != 0 || r.End() != api.ErrNil {
				t.Errorf("%s: of %d: %v", name, n, r.End())
			}
		}
	}
}

func TestEndChangesNothing(t *testing.T) {
	r := wire.Read([]byte{5, 6})
	for range 3 {
		if r.End() != api.ErrBytes || r.Left() != 2 {
			t.Fatal("End, Left must only look")
		}
	}
	if r.Number(2) != 0x0506 || r.End() != api.OK || r.End() != api.OK {
		t.Error("and so behind it")
	}
}

func hasFailed(r *wire.Reader) bool {
	return r.End() == api.ErrBytes && r.Left() == 0
}

func readsNothing(r *wire.Reader) bool {
	return r.Number(1) == 0 && r.Number(8) == 0 && len(r.Bytes(0)) == 0 && len(r.Bytes(1)) == 0 && len(r.Blob()) == 0 &&
		r.Key() == api.Key{} && r.Number(math.MaxInt) == 0 && len(r.Bytes(math.MinInt)) == 0
}
