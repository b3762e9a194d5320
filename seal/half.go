package seal

import (
	"escutcheon/aead"
	"escutcheon/api"
	"escutcheon/wire"
)

const (
	numberBytes = 8
	lengthBytes = 4

	// around is how many bytes a record has beside its content.
	around = lengthBytes + api.Mark
)

// half is what stands in a half of a disk: a snapshot, and changes behind it.
type half struct {
	which    byte
	first    uint64   // the number of the first record
	contents [][]byte // the records', the snapshot's ahead of all
}

// read takes a half's records, as far as each can be opened, from all bytes of the half.
func read(key api.Key, which byte, b []byte) half {
	r := wire.Read(b)
	h := half{which: which, first: r.Number(numberBytes)}
reading:
	for {
		length := r.Number(lengthBytes)
		sealed := r.Bytes(int(length) + api.Mark)
		switch content, err := aead.Open(key, aead.Nonce(h.next()), h.place(), sealed); err {
		case api.OK:
			h.contents = append(h.contents, content)
			r.Bytes(r.Left() % api.BlockSize) // what fills up the record's last block
		default: // also where there is no room for so many bytes: then none were read
			break reading
		}
	}
	return h
}

// record is the next record of a half as bytes, up to a whole block; ahead of the first one its number stands in clear.
func (h half) record(key api.Key, content []byte) []byte {
	length, _ := wire.Put(uint64(len(content)), lengthBytes)
	sealed := aead.Seal(key, aead.Nonce(h.next()), h.place(), content)
	blocks := make([]byte, h.need(content)*api.BlockSize)
	copy(blocks, wire.Join(bytesOf(h.first)[:h.ahead()], length, sealed))
	return blocks
}

// place is what the next record of a half is sealed beside, so that it can't be opened anywhere else.
func (h half) place() []byte {
	isFirst := byte(0)
	if h.isEmpty() {
		isFirst = 1
	}
	return wire.Join(bytesOf(h.first), []byte{h.which, isFirst})
}

// ahead is how many bytes stand ahead of the next record, in its first block.
func (h half) ahead() int {
	if h.isEmpty() {
		return numberBytes
	}
	return 0
}

// need is how many blocks the next record takes.
func (h half) need(content []byte) int {
	return Need(h.ahead() + len(content))
}

func (h half) isEmpty() bool {
	return len(h.contents) == 0
}

// next is the number of the next record.
func (h half) next() uint64 {
	return h.first + uint64(len(h.contents))
}

// last is the number of the last record, or 0, where there is none.
func (h half) last() uint64 {
	if h.isEmpty() {
		return 0
	}
	return h.next() - 1
}

// Need parts n ahead of the sum, as that may have no room in an int.
func Need(n int) int {
	if n < 0 {
		return 0
	}
	rest := n%api.BlockSize + around
	return n/api.BlockSize + (rest+api.BlockSize-1)/api.BlockSize
}

func bytesOf(n uint64) []byte {
	b, _ := wire.Put(n, numberBytes)
	return b
}
