package hkdf_test

import (
	"crypto/sha256"
	"math/rand"
	"slices"
	"testing"

	"escutcheon/api"
	"escutcheon/blake"
	"escutcheon/hkdf"
	"escutcheon/wire"
)

// The macs are those of another program that keeps to BLAKE2s and to HMAC.
func TestKnownMacs(t *testing.T) {
	for _, x := range []struct {
		key, bytes int
		want       string
	}{
		{0, 0, "eaf4bb25938f4d20e72656bbbc7a9bf63c0c18537333c35bdb67db1402661acd"},
		{0, 3, "658dd914aa95d4e132127f317ef45534388b4472cd72625948035d14e3af8fdd"},
		{0, 64, "8ab5b370ed40c5ae1cfeb1e488d89a8a8bbbbbf0c86bc9ec5097cf6a3d7e6d50"},
		{1, 0, "79425d94ebbe6cb0677d3c6ede74f6cc21b700e140440176dd9587146f4746b3"},
		{1, 3, "8394b30f84828c5d7a2dab7339cc525875eb2563c2f225b1514958a4120230f0"},
		{1, 64, "b3fecc42a826151a80568b98d54b8380f2bc898f613d80052daec6b3e600a730"},
		{31, 0, "ca94ce89df07d910698c8e1397fd5daa081f17d61788a2a7e3396718b7a94792"},
		{31, 3, "2a6a2ddc321cbb68ba406fce3474e9a29e860466a78a942466372f2a7814b7e0"},
		{31, 64, "238ebb3b3efd875d660f24acd2001e04807a4f0cee00608ec826c14cc1c5940d"},
		{32, 0, "415e9b4d3980426d4035d9a83fea764b343f7268672ebf9a667a6c308967024a"},
		{32, 3, "5a77b6e0d59709b9e8896126575597bd71919557e56c33130034afc13d67a284"},
		{32, 64, "aa6ba35b13f34e8d10b641c183aa566fce2806fd8b4c33d798200fa9e2443c7d"},
		{33, 0, "5ce5186d0797776708fe191c8c5d4f98444e2863cd8615eb8c3833b050d37dbd"},
		{33, 3, "ad189e8fffe17cc2566bca188ab991d6176b991ae6320f017c1d9fc6421365f4"},
		{33, 64, "bccb2de1a2e2534940f15f9983610ebcc63c3b09c67f329efeb3e467754ef07f"},
		{63, 0, "33015d43ef22a38e057d075b98ff09077adab90e3918fe598c6e07496decbaa9"},
		{63, 3, "6f0a8173caa23846c6f6ad0fc78500e6b1bb3983172197318cd58c9d1bd87ef2"},
		{63, 64, "3ed962d03a8a7f7648fa7c64f26acf78bfed9bf4ea534b152084537f1b5e6c35"},
		{64, 0, "71538c31b1d4e5d3b7b03f9579904f45ff45ec61fe737940de42ebf3747f3300"},
		{64, 3, "3da2452e0d2ab3f0744b59e88ae36b1d622d0ced3f2603e7899b460083f68d01"},
		{64, 64, "f42ed04fd1ddcfe8692fed3a88d70dcdd27dbb9bc3071cfed3fe58e7d1970ef0"},
		{65, 0, "ba8b98351a466fbd84d17ad59e310e7e9cff60feb25108c16b7b5383936bf9c9"},
		{65, 3, "a9bbfa11abf437b8a0934d379b8604f3bd92fe77bdb07aeaa7b328a98bba73b4"},
		{65, 64, "d4c1b676cd59473f54091afbe50dba4befdcb237098df6e90eb645da26eb4202"},
		{66, 0, "421d11a98ac691b357427df71296eee062812789fd9df53d26e196d91e8b0d13"},
		{66, 3, "e13f884d4d7b4f9027aabd33fdfc916e11d5aa903db57de19f5ab8ac2f709081"},
		{66, 64, "dee76186c191aa89408746a583203ac753a2bba4f6404651572bbcbc5eca29b1"},
		{127, 0, "43fa4690aee192d8d155e764ee4bbd961e064d27c9c914bc5ea90c58d1329ee3"},
		{127, 3, "fa5b156387841e2467f95fc5c00800d5650a981c92b0326ebf75c91abbe76178"},
		{127, 64, "eb004816ccf8fcd478aceea7f298bad04e7d0d8ea86110c21342b11235cafd0e"},
		{128, 0, "3e65f1605ca39be04bff7d81131f0b2ce5285b05e0ca7162f7dde0541352c163"},
		{128, 3, "f87517cc5be85323e921ff23f78a78fd6db867b0307fbee0be6a8bbdffee5d20"},
		{128, 64, "6172f643ed9db6a888dfdb08482f495454d01db92072683ae0db0ae26e829303"},
		{129, 0, "7979fec25021c64a92762fd626599d53be4bac52e025fec41b06e2680b8ec4bd"},
		{129, 3, "e83bf6795c439dacd6b5b450a348f62c4d4039ac4d89dc4918ccbdcb2510a252"},
		{129, 64, "36bff8240d17345712b0a45c50e0db19e135b8b450fb78e875f72480f6a04c45"},
		{1000, 0, "33a6ccb3330b16510c85a9ebab649b7641e5486a36f54a03783b909258ade97b"},
		{1000, 3, "f8e6491b79a250871ece7694eb15b2be5ed352bf2faacf33f4082a2ea2786291"},
		{1000, 64, "e2c20122b713e991aba6cf7a3df1f7ac33ce3fe9be8074ddcac9a60d080bbd54"},
	} {
		if got := hkdf.Mac(counted(x.key, 1), counted(x.bytes, 7)); told(got) != x.want {
			t.Errorf("a key of %d bytes: the mac of %d is %s, not %s", x.key, x.bytes, told(got), x.want)
		}
	}
}

func TestKnownNoughtsAndOnes(t *testing.T) {
	for _, x := range []struct {
		with byte
		n    int
		want string
	}{
		{0, 0, "eaf4bb25938f4d20e72656bbbc7a9bf63c0c18537333c35bdb67db1402661acd"},
		{0, 1, "2c463acb9ef603333b173321a3ff0d7f7a562d569db0efb9a5cad61f6e0792cf"},
		{0, 32, "025108dc4694cac66d549e152b967e41e516cc7568111822bf1ca44cb89bcbca"},
		{0, 63, "aa44f55e2905ad2217f62f5d923dfc08fb6232b2025ca6e3d14d04e4066bacaa"},
		{0, 64, "59a518e1a2174420aac8f66e8c2be0ea05123bc6efd2fed957973972a0ca45cf"},
		{0, 65, "fa99aa4427ba1770ba8e85a597c605f8195b49f265f275bb72495d9036c3f6d5"},
		{0, 128, "e80a539256460e592ccb171f327e92ec0112b23ccbfc7b767c709d7a1cb3b3b9"},
		{0, 129, "0602a7ad8f86ea6f16e6cc4a7eb85e619cc66c72ff23650c2328f6bf12eb1719"},
		{255, 0, "eaf4bb25938f4d20e72656bbbc7a9bf63c0c18537333c35bdb67db1402661acd"},
		{255, 1, "8cb3ec99379bfb2b9b041cc4feb2dcb96a4b510bfd32e76550d694450209b11d"},
		{255, 32, "466b3d4299d38215aca74be8b990f7e597b6f8052ff6a0ea8a1d2606270f209e"},
		{255, 63, "787cdd0cc93b849b49d0daf97163e70de5c8c84ae56af481e8bd34518380d611"},
		{255, 64, "6fd0f560aa3f27b82717691ed4c78a6f8d6826a34bb7e9b0165a576cb6f0847e"},
		{255, 65, "35ed6ec203d1c1ef623d3150d7129b5ac679b95d438ec87bfe9addba5b2cd3a8"},
		{255, 128, "1ffdf23e05825e91a3e5d559f1a74c8fc44be47ed5bd162195221952b0279912"},
		{255, 129, "97126662b123fdeb56e3c6de7191e149bf93df60b2f2f0a301d9c14a4ee12868"},
	} {
		if got := hkdf.Mac(filled(x.n, x.with), filled(x.n, x.with)); told(got) != x.want {
			t.Errorf("a key, and bytes, of %d times %d: the mac is %s, not %s", x.n, x.with, told(got), x.want)
		}
	}
}

func TestKnownTexts(t *testing.T) {
	for _, x := range []struct{ key, text, want string }{
		{"", "", "eaf4bb25938f4d20e72656bbbc7a9bf63c0c18537333c35bdb67db1402661acd"},
		{"key", "The quick brown fox jumps over the lazy dog", "f93215bb90d4af4c3061cd932fb169fb8bb8a91d0b4022baea1271e1323cd9a0"},
		{"Jefe", "what do ya want for nothing?", "90b6281e2f3038c9056af0b4a7e763cae6fe5d9eb4386a0ec95237890c104ff0"},
	} {
		if got := hkdf.Mac([]byte(x.key), []byte(x.text)); told(got) != x.want {
			t.Errorf("the mac of %q and %q is %s, not %s", x.key, x.text, told(got), x.want)
		}
	}
}

// All lengths of both up to several blocks; the hash is that of all macs that such another program answered.
func TestAllLengths(t *testing.T) {
	all := sha256.New()
	for key := range 201 {
		for n := range 201 {
			mac := hkdf.Mac(counted(key, key+n), counted(n, 3*key+n))
			all.Write(mac[:])
		}
	}
	if got := wire.Hex(all.Sum(nil)); got != "e087cea6ae8efa8ee1aeb6746c64872d6d156df17c9d66a6462806224699425c" {
		t.Errorf("the macs of all lengths have the hash %s", got)
	}
}

// Lengths that need a second, a third and a fourth byte; held against as all lengths are.
func TestManyBytes(t *testing.T) {
	all := sha256.New()
	for _, n := range []int{255, 256, 257, 4096, 1<<16 - 1, 1 << 16, 1<<16 + 1, 1<<24 - 1, 1 << 24, 1<<24 + 1} {
		mac := hkdf.Mac(counted(n, 1), counted(3, 2))
		all.Write(mac[:])
		mac = hkdf.Mac(counted(3, 1), counted(n, 2))
		all.Write(mac[:])
	}
	if got := wire.Hex(all.Sum(nil)); got != "a832466535bec96315ba756034a64591907981739ffe718eace0d49a577dd786" {
		t.Errorf("the macs of many bytes have the hash %s", got)
	}
}

func TestMacIsAsTheChapterTellsIt(t *testing.T) {
	for key := range 3*size + 2 {
		for _, n := range lengths() {
			check(t, some(key), some(n))
			for _, with := range []byte{0, 54, 92, 255} {
				check(t, filled(key, with), some(n))
				check(t, some(key), filled(n, with))
			}
		}
	}
}

func TestMacIsTheLibrarys(t *testing.T) {
	for key := range 3*size + 2 {
		for _, n := range lengths() {
			if got, want := hkdf.Mac(some(key), some(n)), librarys(some(key), some(n)); got != want {
				t.Errorf("a key of %d bytes: the mac of %d is %s, the library's %s", key, n, told(got), told(want))
			}
		}
	}
}

func TestALongKeyIsItsHash(t *testing.T) {
	for _, b := range [][]byte{nil, []byte("abc"), some(size), some(100)} {
		for n := range 5 * size {
			key := some(n)
			hash := blake.Sum(key)
			if same := hkdf.Mac(key, b) == hkdf.Mac(hash[:], b); same != (n > size) {
				t.Errorf("a key of %d bytes has the mac of its hash: %v", n, same)
			}
		}
	}
}

// A hash is filled up as any short key is, and its noughts come behind it.
func TestALongKeysHashIsFilledUp(t *testing.T) {
	for _, n := range []int{65, 66, 128, 129, 1000} {
		key := some(n)
		hash := blake.Sum(key)
		want := hkdf.Mac(key, []byte("abc"))
		for noughts := range size - len(hash) + 1 {
			if hkdf.Mac(slices.Concat(hash[:], make([]byte, noughts)), []byte("abc")) != want {
				t.Errorf("a key of %d bytes is not its hash and %d noughts", n, noughts)
			}
		}
		if hkdf.Mac(key[:n-1], []byte("abc")) == want || hkdf.Mac(slices.Concat(key, []byte{0}), []byte("abc")) == want {
			t.Errorf("the length of a key of %d bytes does not count", n)
		}
	}
}

// Noughts behind a short key change nothing till they are too many; ahead of it they do.
func TestNoughtsBehindAShortKey(t *testing.T) {
	b := some(40)
	for n := range size + 1 {
		key := some(n)
		want := hkdf.Mac(key, b)
		for noughts := range 2*size - n {
			longer := slices.Concat(key, make([]byte, noughts))
			if same := hkdf.Mac(longer, b) == want; same != (len(longer) <= size) {
				t.Errorf("a key of %d bytes and %d noughts has the mac of the key: %v", n, noughts, same)
			}
		}
		if n > 0 && n < size && hkdf.Mac(slices.Concat([]byte{0}, key), b) == want {
			t.Errorf("a nought ahead of a key of %d bytes does not count", n)
		}
	}
}

func TestNoKey(t *testing.T) {
	for _, b := range [][]byte{nil, {0}, some(64), some(65)} {
		want := wanted(nil, b)
		for _, key := range [][]byte{nil, {}, make([]byte, 0, 100), some(50)[50:], make([]byte, 1), make([]byte, size)} {
			if got := hkdf.Mac(key, b); got != want {
				t.Errorf("a key of %d noughts: the mac of %d bytes is %s", len(key), len(b), told(got))
			}
		}
	}
}

func TestNoBytes(t *testing.T) {
	for _, n := range lengths() {
		key := some(n)
		want := wanted(key, nil)
		if hkdf.Mac(key) != want {
			t.Errorf("a key of %d bytes: the mac of no parts is %s", n, told(hkdf.Mac(key)))
		}
		for _, parts := range [][][]byte{nil, {}, {nil}, {{}}, {nil, {}, nil}, {some(50)[50:], make([]byte, 0, 100)}, make([][]byte, 1000)} {
			if got := hkdf.Mac(key, parts...); got != want {
				t.Errorf("a key of %d bytes: the mac of %d parts without a byte is %s", n, len(parts), told(got))
			}
		}
	}
}

func TestEmptyPartsAddNothing(t *testing.T) {
	key := some(32)
	for _, n := range lengths() {
		b := some(n)
		for _, parts := range [][][]byte{{nil, b}, {b, nil}, {{}, b, {}}, {b[:n/2], nil, {}, b[n/2:]}, {b[:0], b, b[n:]}} {
			check(t, key, parts...)
		}
		single := [][]byte{nil}
		for i := range b {
			single = append(single, b[i:i+1], nil, []byte{})
		}
		check(t, key, single...)
	}
}

func TestPartsAreCutAnywhere(t *testing.T) {
	for _, key := range [][]byte{nil, some(1), some(63), some(64), some(65), some(200)} {
		for _, n := range lengths() {
			b := some(n)
			want := wanted(key, b)
			for cut := range n + 1 {
				if hkdf.Mac(key, b[:cut], b[cut:]) != want || hkdf.Mac(key, b[:cut], nil, b[cut:]) != want {
					t.Errorf("%d bytes, cut at %d, have another mac", n, cut)
				}
			}
		}
	}
	key := some(33)
	for _, n := range []int{63, 64, 65, 128, 129, 140} {
		b := some(n)
		want := wanted(key, b)
		for cut := range n + 1 {
			for next := cut; next <= n; next++ {
				if hkdf.Mac(key, b[:cut], b[cut:next], b[next:]) != want {
					t.Errorf("%d bytes, cut at %d and %d, have another mac", n, cut, next)
				}
			}
		}
	}
}

func TestManyParts(t *testing.T) {
	for _, n := range []int{1000, 1024} {
		b := some(n)
		for part := 1; part <= 3*size+1; part++ {
			check(t, some(part), slices.Collect(slices.Chunk(b, part))...)
		}
	}
	x := rand.New(rand.NewSource(1))
	for range 2000 {
		var parts [][]byte
		for range x.Intn(12) {
			parts = append(parts, some(x.Intn(x.Intn(200)+1)))
		}
		check(t, some(x.Intn(140)), parts...)
	}
}

// The parts' order is in the mac; where one ends isn't, but where the key ends is.
func TestThePartsOrder(t *testing.T) {
	key, a, b := some(32), []byte("ab"), []byte("c")
	if hkdf.Mac(key, a, b) != hkdf.Mac(key, []byte("abc")) || hkdf.Mac(key, a, b) != hkdf.Mac(key, []byte("a"), []byte("bc")) {
		t.Error("where a part ends is in the mac")
	}
	if hkdf.Mac(key, b, a) != hkdf.Mac(key, []byte("cab")) || hkdf.Mac(key, a, b) == hkdf.Mac(key, b, a) {
		t.Error("the parts' order is not in the mac")
	}
	if hkdf.Mac(a, b) == hkdf.Mac([]byte("a"), []byte("bc")) || hkdf.Mac(a, b) == hkdf.Mac(b, a) || hkdf.Mac(a, b) == hkdf.Mac(nil, a, b) {
		t.Error("which bytes are the key's is not in the mac")
	}
}

func TestTheMacHangsOnEachBit(t *testing.T) {
	for _, lengths := range [][2]int{{1, 1}, {31, 0}, {32, 63}, {63, 64}, {64, 65}, {65, 128}, {129, 33}} {
		key, b := some(lengths[0]), some(lengths[1])
		seen := map[api.Key]bool{hkdf.Mac(key, b): true}
		for _, turned := range [][]byte{key, b} {
			for bit := range 8 * len(turned) {
				turned[bit/8] ^= 1 << (bit % 8)
				seen[hkdf.Mac(key, b)] = true
				turned[bit/8] ^= 1 << (bit % 8)
			}
		}
		if want := 1 + 8*(len(key)+len(b)); len(seen) != want {
			t.Errorf("%d bytes and a key of %d, each bit turned: %d macs of %d", len(b), len(key), len(seen), want)
		}
	}
}

// Noughts that the bytes end in are not those that a block is filled up with.
func TestNoughtsAreCounted(t *testing.T) {
	key, seen := some(20), map[api.Key]bool{}
	for n := range 300 {
		seen[hkdf.Mac(key, make([]byte, n))] = true
		seen[hkdf.Mac(key, []byte("abc"), make([]byte, n))] = true
	}
	if len(seen) != 600 {
		t.Error("600 lists of bytes come to", len(seen), "macs")
	}
}
