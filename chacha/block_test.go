package chacha_test

import (
	"bytes"
	"math/rand"
	"testing"

	"escutcheon/api"
	"escutcheon/chacha"
	"escutcheon/wire"
)

func TestExampleOfTheChapter(t *testing.T) {
	if got := chacha.Block(api.Key{}, 0, nonce{}); !bytes.Equal(got[:4], []byte{118, 184, 224, 173}) {
		t.Error("Block(0, 0, 0) =", got)
	}
}

// The blocks that RFC 8439 prints.
func TestKnownBlocks(t *testing.T) {
	const noughts, shorter = "0000000000000000000000000000000000000000000000000000000000000000", "000000000000000000000000"
	for _, x := range []struct {
		key     string
		counter uint32
		nonce   string
		block   string
	}{
		{noughts, 0, shorter, "76b8e0ada0f13d90405d6ae55386bd28bdd219b8a08ded1aa836efcc8b770dc7da41597c5157488d7724e03fb8d84a376a43b8f41518a11cc387b669b2ee6586"},
		{noughts, 1, shorter, "9f07e7be5551387a98ba977c732d080dcb0f29a048e3656912c6533e32ee7aed29b721769ce64e43d57133b074d839d531ed1f28510afb45ace10a1f4b794d6f"},
		{"0000000000000000000000000000000000000000000000000000000000000001", 1, shorter, "3aeb5224ecf849929b9d828db1ced4dd832025e8018b8160b82284f3c949aa5a8eca00bbb4a73bdad192b5c42f73f2fd4e273644c8b36125a64addeb006c13a0"},
		{"00ff000000000000000000000000000000000000000000000000000000000000", 2, shorter, "72d54dfbf12ec44b362692df94137f328fea8da73990265ec1bbbea1ae9af0ca13b25aa26cb4a648cb9b9d1be65b2c0924a66c54d545ec1b7374f4872e99f096"},
		{noughts, 0, "000000000000000000000002", "c2c64d378cd536374ae204b9ef933fcd1a8b2288b3dfa49672ab765b54ee27c78a970e0e955c14f3a88e741b97c286f75f8fc299e8148362fa198a39531bed6d"},
		{"000102030405060708090a0b0c0d0e0f101112131415161718191a1b1c1d1e1f", 1, "000000090000004a00000000", "10f1e7e4d13b5915500fdd1fa32071c4c7d1f4c733c068030422aa9ac3d46c4ed2826446079faa0914c2d705d98b02a2b5129cd1de164eb9cbd083e8a2503c4e"},
	} {
		got := chacha.Block(api.Key(ofHex(t, x.key)), x.counter, nonce(ofHex(t, x.nonce)))
		if wire.Hex(got[:]) != x.block {
			t.Errorf("Block(%s, %d, %s) is %s", x.key, x.counter, x.nonce, wire.Hex(got[:]))
		}
	}
}

func TestBlockIsAsTheChapterTellsIt(t *testing.T) {
	for _, key := range keys() {
		for _, n := range nonces() {
			for _, counter := range counters() {
				checkBlock(t, key, counter, n)
			}
		}
	}
}

func TestBlockOfAnything(t *testing.T) {
	x := rand.New(rand.NewSource(1))
	for range 2000 {
		var key api.Key
		var n nonce
		x.Read(key[:])
		x.Read(n[:])
		checkBlock(t, key, x.Uint32(), n)
	}
}

// Each bit of what is given has a place of its own in the beginning.
func TestBlockHangsOnEachBit(t *testing.T) {
	for i, key := range []api.Key{{}, keyOfOnes(), keyOf(3)} {
		n := []nonce{{}, nonceOfOnes(), nonceOf(3)}[i]
		counter := []uint32{0, 1<<32 - 1, 12345678}[i]
		seen := map[api.Long]bool{}
		take := func(key api.Key, counter uint32, n nonce) {
			checkBlock(t, key, counter, n)
			block := chacha.Block(key, counter, n)
			if seen[block] {
				t.Errorf("Block(%s, %d, %s) was there already", wire.Hex(key[:]), counter, wire.Hex(n[:]))
			}
			seen[block] = true
		}
		take(key, counter, n)
		for bit := range 256 {
			other := key
			other[bit/8] ^= 1 << (bit % 8)
			take(other, counter, n)
		}
		for bit := range 32 {
			take(key, counter^1<<bit, n)
		}
		for bit := range 96 {
			other := n
			other[bit/8] ^= 1 << (bit % 8)
			take(key, counter, other)
		}
	}
}

// A counter has one word: behind the greatest comes 0, not the nonce's next number.
func TestTheCounterIsNotCarriedIntoTheNonce(t *testing.T) {
	for _, key := range keys() {
		for _, n := range nonces() {
			next := n
			next[0]++
			b := chacha.Xor(key, 1<<32-1, n, make([]byte, 2*size))
			last, first, carried := chacha.Block(key, 1<<32-1, n), chacha.Block(key, 0, n), chacha.Block(key, 0, next)
			if !bytes.Equal(b[:size], last[:]) || !bytes.Equal(b[size:], first[:]) {
				t.Errorf("the nonce %s: behind the greatest counter comes another one than 0", wire.Hex(n[:]))
			}
			if first == carried {
				t.Errorf("the nonce %s has the blocks of the next one", wire.Hex(n[:]))
			}
		}
	}
}
