package wire_test

import (
	"bytes"
	"math"
	"testing"

	"escutcheon/api"
	"escutcheon/wire"
)

// oddInts are sizes and numbers of bytes that nothing has.
var oddInts = []int{math.MinInt, -1 << 32, -256, -64, -9, -8, -1, 1 << 20, 1 << 32, 1<<32 + 1, math.MaxInt - 1, math.MaxInt}

func TestPut(t *testing.T) {
	for _, x := range []struct {
		n    uint64
		size int
		want []byte
	}{
		{0, 1, []byte{0}},
		{7, 1, []byte{7}},
		{255, 1, []byte{255}},
		{0, 2, []byte{0, 0}},
		{256, 2, []byte{1, 0}},
		{258, 3, []byte{0, 1, 2}},
		{0x01020304, 4, []byte{1, 2, 3, 4}},
		{0xfffefdfcfb, 5, []byte{255, 254, 253, 252, 251}},
		{1 << 40, 6, []byte{1, 0, 0, 0, 0, 0}},
		{0x80818283848586, 7, []byte{128, 129, 130, 131, 132, 133, 134}},
		{0x8102030405060708, 8, []byte{129, 2, 3, 4, 5, 6, 7, 8}},
		{1, 8, []byte{0, 0, 0, 0, 0, 0, 0, 1}},
		{0, 8, make([]byte, 8)},
		{math.MaxUint64, 8, bytes.Repeat([]byte{255}, 8)},
	} {
		if b, err := wire.Put(x.n, x.size); err != api.OK || !bytes.Equal(b, x.want) {
			t.Errorf("Put(%d, %d) = %v, %v", x.n, x.size, b, err)
		}
	}
}

func TestPutAtTheEdgeOfEachSize(t *testing.T) {
	for size := 1; size < 8; size++ {
		greatest := uint64(1)<<(8*size) - 1
		if b, err := wire.Put(greatest, size); err != api.OK || !bytes.Equal(b, bytes.Repeat([]byte{255}, size)) {
			t.Errorf("Put(%d, %d) = %v, %v", greatest, size, b, err)
		}
		for _, n := range []uint64{greatest + 1, greatest + 2, greatest << 1, math.MaxUint64, 1 << 63} {
			if b, err := wire.Put(n, size); err != api.ErrArg || len(b) != 0 {
				t.Errorf("Put(%d, %d) = %v, %v", n, size, b, err)
			}
		}
	}
}

func TestPutOfNoSize(t *testing.T) {
	for _, size := range append([]int{0, 9, 10, 16, 64}, oddInts...) {
		for _, n := range []uint64{0, 1, 300, math.MaxUint64} {
			if b, err := wire.Put(n, size); err != api.ErrArg || len(b) != 0 {
				t.Errorf("Put(%d, %d) = %v, %v", n, size, b, err)
			}
		}
	}
}

func TestGet(t *testing.T) {
	for _, x := range []struct {
		b    []byte
		want uint64
	}{
		{[]byte{0}, 0},
		{[]byte{255}, 255},
		{[]byte{0, 1, 2}, 258},
		{[]byte{2, 1}, 513},
		{[]byte{0, 0, 0, 5}, 5},
		{[]byte{128, 0, 0, 0, 0}, 1 << 39},
		{[]byte{1, 0, 0, 0, 0, 0}, 1 << 40},
		{[]byte{1, 2, 3, 4, 5, 6, 7}, 0x01020304050607},
		{[]byte{129, 2, 3, 4, 5, 6, 7, 8}, 0x8102030405060708},
		{make([]byte, 8), 0},
		{bytes.Repeat([]byte{255}, 8), math.MaxUint64},
	} {
		if n, err := wire.Get(x.b); err != api.OK || n != x.want {
			t.Errorf("Get(%v) = %d, %v", x.b, n, err)
		}
	}
	for _, length := range []int{0, 9, 10, 16, 255, 65536, 1 << 20} {
		if n, err := wire.Get(bytes.Repeat([]byte{1}, length)); err != api.ErrArg || n != 0 {
			t.Errorf("Get of %d bytes = %d, %v", length, n, err)
		}
	}
	if n, err := wire.Get(nil); err != api.ErrArg || n != 0 {
		t.Errorf("Get(nil) = %d, %v", n, err)
	}
}

func TestBlob(t *testing.T) {
	for _, x := range []struct{ b, want []byte }{
		{nil, []byte{0, 0}},
		{[]byte{}, []byte{0, 0}},
		{[]byte{9}, []byte{0, 1, 9}},
		{[]byte("abc"), []byte{0, 3, 'a', 'b', 'c'}},
		{[]byte{0, 0}, []byte{0, 2, 0, 0}},
	} {
		if b, err := wire.Blob(x.b); err != api.OK || !bytes.Equal(b, x.want) {
			t.Errorf("Blob(%v) = %v, %v", x.b, b, err)
		}
	}
	for _, length := range []int{255, 256, 257, 65534, 65535} {
		b, err := wire.Blob(some(length))
		if err != api.OK || len(b) != length+2 || b[0] != byte(length/256) || b[1] != byte(length%256) || !bytes.Equal(b[2:], some(length)) {
			t.Errorf("Blob of %d bytes: %d bytes, %v", length, len(b), err)
		}
	}
	for _, length := range []int{65536, 65537, 2 * 65536, 1<<24 + 3} {
		if b, err := wire.Blob(make([]byte, length)); err != api.ErrLong || len(b) != 0 {
			t.Errorf("Blob of %d bytes: %d bytes, %v", length, len(b), err)
		}
	}
}

func TestJoin(t *testing.T) {
	for _, x := range []struct {
		parts [][]byte
		want  string
	}{
		{nil, ""},
		{[][]byte{nil}, ""},
		{[][]byte{nil, {}, nil}, ""},
		{[][]byte{[]byte("a")}, "a"},
		{[][]byte{[]byte("ab"), []byte("c")}, "abc"},
		{[][]byte{[]byte("c"), nil, []byte("ab"), {}, []byte("ab")}, "cabab"},
	} {
		if all := wire.Join(x.parts...); string(all) != x.want {
			t.Errorf("Join(%v) = %v", x.parts, all)
		}
	}
	if all := wire.Join(); len(all) != 0 {
		t.Errorf("Join() = %v", all)
	}
	many, want := [][]byte{}, []byte{}
	for n := range 300 {
		many, want = append(many, some(n)), append(want, some(n)...)
	}
	if !bytes.Equal(wire.Join(many...), want) {
		t.Error("Join of 300 parts")
	}
	same := some(4)
	if all := wire.Join(same, same); !bytes.Equal(all, append(some(4), some(4)...)) {
		t.Errorf("Join of one part twice = %v", all)
	}
}

// some is so many bytes, hardly any the same as its neighbour, made anew each time.
func some(n int) []byte {
	b := make([]byte, n)
	for i := range b {
		b[i] = byte(7*i + i/256 + 1)
	}
	return b
}
