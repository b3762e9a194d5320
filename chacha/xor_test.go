package chacha_test

import (
	"bytes"
	"math/rand"
	"testing"

	"escutcheon/api"
	"escutcheon/chacha"
	"escutcheon/wire"
)

// The texts that RFC 8439 prints, xor the stream.
func TestKnownTexts(t *testing.T) {
	for _, x := range []struct {
		key     string
		counter uint32
		nonce   string
		plain   string
		want    string
	}{
		{
			"000102030405060708090a0b0c0d0e0f101112131415161718191a1b1c1d1e1f", 1, "000000000000004a00000000",
			"Ladies and Gentlemen of the class of '99: If I could offer you only one tip for the future, sunscreen would be it.",
			"6e2e359a2568f98041ba0728dd0d6981e97e7aec1d4360c20a27afccfd9fae0bf91b65c5524733ab8f593dabcd62b3571639d624e65152ab8f530c359f0861d807ca0dbf500d6a6156a38e088a22b65e52bc514d16ccf806818ce91ab77937365af90bbf74a35be6b40b8eedf2785e42874d",
		},
		{
			"1c9240a5eb55d38af333888604f6b5f0473917c1402b80099dca5cbc207075c0", 42, "000000000000000000000002",
			"'Twas brillig, and the slithy toves\nDid gyre and gimble in the wabe:\nAll mimsy were the borogoves,\nAnd the mome raths outgrabe.",
			"62e6347f95ed87a45ffae7426f27a1df5fb69110044c0d73118effa95b01e5cf166d3df2d721caf9b21e5fb14c616871fd84c54f9d65b283196c7fe4f60553ebf39c6402c42234e32a356b3e764312a61a5532055716ead6962568f87d3f3f7704c6a8d1bcd1bf4d50d6154b6da731b187b58dfd728afa36757a797ac188d1",
		},
	} {
		key, n := api.Key(ofHex(t, x.key)), nonce(ofHex(t, x.nonce))
		if got := chacha.Xor(key, x.counter, n, []byte(x.plain)); wire.Hex(got) != x.want {
			t.Errorf("Xor of %q is %s", x.plain, wire.Hex(got))
		}
		if got := chacha.Xor(key, x.counter, n, ofHex(t, x.want)); string(got) != x.plain {
			t.Errorf("Xor of %s is %q", x.want, got)
		}
	}
}

func TestNoBytes(t *testing.T) {
	for _, key := range keys() {
		for _, counter := range counters() {
			for _, b := range [][]byte{nil, {}, make([]byte, 0, 100), some(100)[100:]} {
				if got := chacha.Xor(key, counter, nonce{}, b); len(got) != 0 {
					t.Errorf("Xor of no bytes, from %d on, is %d bytes", counter, len(got))
				}
			}
		}
	}
}

// One byte, bytes up to a block's end and one more, several blocks.
func TestAllLengths(t *testing.T) {
	key, n := keyOf(4), nonceOf(4)
	for length := range 6*size + 2 {
		checkXor(t, key, 7, n, some(length))
		checkXor(t, key, 1<<32-3, n, make([]byte, length))
		checkXor(t, keyOfOnes(), 1<<32-1, nonceOfOnes(), bytes.Repeat([]byte{255}, length))
	}
}

func TestXorIsAsTheChapterTellsIt(t *testing.T) {
	for _, key := range keys() {
		for _, n := range nonces() {
			for _, counter := range counters() {
				for _, length := range []int{1, size - 1, size, size + 1, 3*size + 5} {
					checkXor(t, key, counter, n, some(length))
				}
			}
		}
	}
}

// Xor of noughts is the stream: the blocks from that counter on.
func TestTheStreamIsTheBlocks(t *testing.T) {
	for _, counter := range counters() {
		key, n := keyOf(5), nonceOf(5)
		b := chacha.Xor(key, counter, n, make([]byte, 10*size+9))
		for i := range 11 {
			block := chacha.Block(key, counter+uint32(i), n)
			part := b[i*size : min((i+1)*size, len(b))]
			if !bytes.Equal(part, block[:len(part)]) {
				t.Errorf("from %d on: the block %d is another one", counter, i)
			}
		}
	}
}

// From a block's end on, the rest of the bytes is what Xor from that block's counter on makes of them.
func TestTheStreamGoesOn(t *testing.T) {
	key, n, b := keyOf(6), nonceOf(6), some(8*size+20)
	for _, counter := range counters() {
		all := chacha.Xor(key, counter, n, b)
		for i := range 9 {
			if rest := chacha.Xor(key, counter+uint32(i), n, b[i*size:]); !bytes.Equal(rest, all[i*size:]) {
				t.Errorf("from %d on: the rest behind %d blocks is another one", counter, i)
			}
		}
		for length := range len(b) {
			if !bytes.Equal(chacha.Xor(key, counter, n, b[:length]), all[:length]) {
				t.Errorf("from %d on: %d bytes are no beginning of more", counter, length)
			}
		}
	}
}

// The counters of so many blocks need a third byte, and go past the greatest word on the way.
func TestManyBlocks(t *testing.T) {
	key, n := keyOf(7), nonceOf(7)
	b := some(66000*size + 3)
	const counter = 1<<32 - 300
	got := chacha.Xor(key, counter, n, b)
	if len(got) != len(b) {
		t.Fatal(len(got), "bytes of", len(b))
	}
	for at := 0; at < len(b); at += size {
		block := chacha.Block(key, uint32((counter+at/size)%full), n)
		for i := range min(size, len(b)-at) {
			if got[at+i] != b[at+i]^block[i] {
				t.Fatalf("the byte %d of the block %d is another one", i, at/size)
			}
		}
	}
	for _, block := range []int{0, 255, 256, 299, 300, 301, 65535, 65536, 65999} {
		want := wanted(key, uint32((counter+block)%full), n)
		for i := range want {
			if at := block*size + i; got[at] != b[at]^want[i] {
				t.Fatalf("the byte %d of the block %d is not as the chapter tells it", i, block)
			}
		}
	}
}

func TestXorOfXor(t *testing.T) {
	x := rand.New(rand.NewSource(2))
	for range 500 {
		var key api.Key
		var n nonce
		x.Read(key[:])
		x.Read(n[:])
		b, counter := some(x.Intn(400)), x.Uint32()
		once := chacha.Xor(key, counter, n, b)
		if twice := chacha.Xor(key, counter, n, once); !bytes.Equal(twice, b) {
			t.Errorf("%d bytes, from %d on: Xor of Xor is %s, not %s", len(b), counter, wire.Hex(twice), wire.Hex(b))
		}
		if len(b) > 16 && bytes.Equal(once, b) {
			t.Errorf("%d bytes, from %d on: Xor does nothing", len(b), counter)
		}
	}
	for _, key := range keys() {
		for _, n := range nonces() {
			for _, counter := range counters() {
				for _, b := range [][]byte{nil, {0}, {255}, some(size - 1), some(size), some(size + 1), make([]byte, 5*size)} {
					if twice := chacha.Xor(key, counter, n, chacha.Xor(key, counter, n, b)); !bytes.Equal(twice, b) {
						t.Errorf("%d bytes, from %d on: Xor of Xor is %s", len(b), counter, wire.Hex(twice))
					}
				}
			}
		}
	}
}

// Of another key, counter or nonce, what was xor'ed stays shut.
func TestXorOfAnotherXor(t *testing.T) {
	key, n, b := keyOf(8), nonceOf(8), some(3*size)
	const counter = 1<<32 - 1
	once := chacha.Xor(key, counter, n, b)
	shut := func(key api.Key, counter uint32, n nonce, what string) {
		if got := chacha.Xor(key, counter, n, once); bytes.Equal(got[:size], b[:size]) || bytes.Equal(got[size:2*size], b[size:2*size]) {
			t.Errorf("another %s opens it", what)
		}
	}
	for bit := range 256 {
		other := key
		other[bit/8] ^= 1 << (bit % 8)
		shut(other, counter, n, "key")
	}
	for bit := range 32 {
		shut(key, counter^1<<bit, n, "counter")
	}
	for bit := range 96 {
		other := n
		other[bit/8] ^= 1 << (bit % 8)
		shut(key, counter, other, "nonce")
	}
}

// Each bit of the bytes is turned, or not, by itself.
func TestXorHangsOnEachBit(t *testing.T) {
	key, n, b := keyOf(9), nonceOf(9), some(2*size+1)
	want := chacha.Xor(key, 3, n, b)
	for bit := range 8 * len(b) {
		b[bit/8] ^= 1 << (bit % 8)
		want[bit/8] ^= 1 << (bit % 8)
		if !bytes.Equal(chacha.Xor(key, 3, n, b), want) {
			t.Errorf("the bit %d, turned, turns others", bit)
		}
	}
}
