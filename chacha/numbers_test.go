package chacha_test

import (
	"math/rand"
	"testing"

	"escutcheon/api"
	"escutcheon/chacha"
	"escutcheon/wire"
)

type nonce = [12]byte

const size = 64

// some is n bytes, no two lists of them with one beginning.
func some(n int) []byte {
	b := make([]byte, n)
	rand.New(rand.NewSource(int64(n))).Read(b)
	return b
}

func keyOf(n int) api.Key {
	return api.Key(some(1000 + n)[:32])
}

func nonceOf(n int) nonce {
	return nonce(some(2000 + n)[:12])
}

func keyOfOnes() api.Key {
	var k api.Key
	for i := range k {
		k[i] = 255
	}
	return k
}

func nonceOfOnes() nonce {
	var n nonce
	for i := range n {
		n[i] = 255
	}
	return n
}

func keys() []api.Key {
	return []api.Key{{}, keyOfOnes(), {1}, {31: 1}, {31: 128}, {0, 255, 0, 255}, keyOf(1), keyOf(2)}
}

func nonces() []nonce {
	return []nonce{{}, nonceOfOnes(), {1}, {11: 1}, {3: 128, 4: 1}, nonceOf(1), nonceOf(2)}
}

// counters are those at which a byte more of the word is needed, and those about its end.
func counters() []uint32 {
	all := []uint32{0, 1, 2, 3, 0x01020304, 0x04030201, 0xaaaaaaaa, 0x55555555}
	for _, bits := range []int{8, 16, 24, 31} {
		all = append(all, 1<<bits-1, 1<<bits, 1<<bits+1)
	}
	return append(all, 1<<32-3, 1<<32-2, 1<<32-1)
}

// word is what four bytes say, the lowest first. Here words are numbers that are divided by 2^32 where they are to be below it.
func word(b []byte) uint64 {
	return uint64(b[0]) + 256*(uint64(b[1])+256*(uint64(b[2])+256*uint64(b[3])))
}

const full = 1 << 32

func turned(x uint64, by int) uint64 {
	for range by {
		x = 2*x%full + 2*x/full
	}
	return x
}

// wanted is the block as the chapter tells it, step by step.
func wanted(key api.Key, counter uint32, n nonce) api.Long {
	v := []uint64{1634760805, 857760878, 2036477234, 1797285236}
	for at := 0; at < 32; at += 4 {
		v = append(v, word(key[at:]))
	}
	v = append(v, uint64(counter), word(n[0:]), word(n[4:]), word(n[8:]))
	first := append([]uint64(nil), v...)
	for range 10 {
		for _, q := range [][4]int{{0, 4, 8, 12}, {1, 5, 9, 13}, {2, 6, 10, 14}, {3, 7, 11, 15}, {0, 5, 10, 15}, {1, 6, 11, 12}, {2, 7, 8, 13}, {3, 4, 9, 14}} {
			a, b, c, d := v[q[0]], v[q[1]], v[q[2]], v[q[3]]
			a = (a + b) % full
			d = turned(d^a, 16)
			c = (c + d) % full
			b = turned(b^c, 12)
			a = (a + b) % full
			d = turned(d^a, 8)
			c = (c + d) % full
			b = turned(b^c, 7)
			v[q[0]], v[q[1]], v[q[2]], v[q[3]] = a, b, c, d
		}
	}
	var block api.Long
	for i := range v {
		sum := (v[i] + first[i]) % full
		for j := range 4 {
			block[4*i+j] = byte(sum % 256)
			sum /= 256
		}
	}
	return block
}

// stream is what n bytes are xor'ed with, from a counter on.
func stream(key api.Key, counter uint32, n nonce, length int) []byte {
	var all []byte
	for at := uint64(counter); len(all) < length; at++ {
		block := wanted(key, uint32(at%full), n)
		all = append(all, block[:]...)
	}
	return all[:length]
}

func ofHex(t *testing.T, text string) []byte {
	t.Helper()
	b, err := wire.OfHex(text)
	if err != api.OK {
		t.Fatal(text)
	}
	return b
}

func checkBlock(t *testing.T, key api.Key, counter uint32, n nonce) {
	t.Helper()
	if got, want := chacha.Block(key, counter, n), wanted(key, counter, n); got != want {
		t.Errorf("Block(%s, %d, %s) is %s, not %s", wire.Hex(key[:]), counter, wire.Hex(n[:]), wire.Hex(got[:]), wire.Hex(want[:]))
	}
}

func checkXor(t *testing.T, key api.Key, counter uint32, n nonce, b []byte) {
	t.Helper()
	want := stream(key, counter, n, len(b))
	for i := range want {
		want[i] ^= b[i]
	}
	if got := chacha.Xor(key, counter, n, b); string(got) != string(want) {
		t.Errorf("Xor(%s, %d, %s) of %d bytes is %s, not %s", wire.Hex(key[:]), counter, wire.Hex(n[:]), len(b), wire.Hex(got), wire.Hex(want))
	}
}
