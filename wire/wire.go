// Package wire is layer 1: numbers and blobs as bytes. See shared/doc/01-wire.md.
package wire

import "escutcheon/api"

const (
	maxSize    = 8
	lengthSize = 2
	digits     = "0123456789abcdef"
)

// stage tells a reader of no bytes from a zero one, which is as a nil one.
type stage int

const (
	unbegun stage = iota
	reading
	failed
)

type Reader struct {
	stage stage
	rest  []byte
}

func Put(n uint64, size int) ([]byte, api.Errno) {
	if !hasRoom(n, size) {
		return nil, api.ErrArg
	}
	b := make([]byte, size)
	for i := range size {
		b[size-1-i] = byte(n >> (8 * i))
	}
	return b, api.OK
}

// hasRoom asks for the size first: a shift by a number below 0 would panic.
func hasRoom(n uint64, size int) bool {
	return size >= 1 && size <= maxSize && n>>(8*size) == 0
}

func Get(b []byte) (uint64, api.Errno) {
	if len(b) < 1 || len(b) > maxSize {
		return 0, api.ErrArg
	}
	var n uint64
	for _, x := range b {
		n = n<<8 | uint64(x)
	}
	return n, api.OK
}

func Blob(b []byte) ([]byte, api.Errno) {
	length, err := Put(uint64(len(b)), lengthSize)
	if err != api.OK { // a length that has no room is the only thing that can be wrong
		return nil, api.ErrLong
	}
	return Join(length, b), api.OK
}

func Join(parts ...[]byte) []byte {
	n := 0
	for _, part := range parts {
		n += len(part)
	}
	all := make([]byte, 0, n)
	for _, part := range parts {
		all = append(all, part...)
	}
	return all
}

// Read takes a copy, so that what becomes of b later is nothing to the reader.
func Read(b []byte) *Reader {
	return &Reader{stage: reading, rest: Join(b)}
}

func (r *Reader) Number(size int) uint64 {
	n, err := Get(r.Bytes(size))
	if err != api.OK { // also of a size that may not be, though there are so many bytes
		r.fail()
	}
	return n
}

func (r *Reader) Bytes(n int) []byte {
	if !r.begun() || n < 0 || n > len(r.rest) {
		r.fail()
		return nil
	}
	// The part is the caller's: its capacity ends where it ends, so that what is appended to it can't go over what is still to be read.
	part := r.rest[:n:n]
	r.rest = r.rest[n:]
	return part
}

func (r *Reader) Blob() []byte {
	// Where the length can't be read, the reader has failed, and Bytes of 0 reads nothing.
	return r.Bytes(int(r.Number(lengthSize)))
}

func (r *Reader) Key() api.Key {
	var k api.Key
	copy(k[:], r.Bytes(len(k)))
	return k
}

func (r *Reader) Left() int {
	if !r.begun() {
		return 0
	}
	return len(r.rest)
}

func (r *Reader) End() api.Errno {
	switch {
	case !r.begun():
		return api.ErrNil
	case r.stage == failed || len(r.rest) > 0:
		return api.ErrBytes
	}
	return api.OK
}

func (r *Reader) begun() bool {
	return r != nil && r.stage != unbegun
}

// fail lets go of what is left, as a reader that failed reads nothing any more; a zero one stays as a nil one.
func (r *Reader) fail() {
	if r.begun() {
		r.stage, r.rest = failed, nil
	}
}

func Hex(b []byte) string {
	text := make([]byte, 0, 2*len(b))
	for _, x := range b {
		text = append(text, digits[x>>4], digits[x&15])
	}
	return string(text)
}

func OfHex(s string) ([]byte, api.Errno) {
	if len(s)%2 != 0 {
		return nil, api.ErrBytes
	}
	b := make([]byte, len(s)/2)
	for i, c := range s { // all runes ahead of i are digits, of one byte each: i is its number
		d, ok := digit(c)
		if !ok {
			return nil, api.ErrBytes
		}
		b[i/2] = b[i/2]<<4 | d
	}
	return b, api.OK
}

func digit(c rune) (byte, bool) {
	switch {
	case c >= '0' && c <= '9':
		return byte(c - '0'), true
	case c >= 'a' && c <= 'f':
		return byte(c-'a') + 10, true
	}
	return 0, false
}
