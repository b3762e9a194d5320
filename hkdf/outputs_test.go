package hkdf_test

import (
	library "crypto/hkdf"
	"crypto/sha256"
	"math/rand"
	"slices"
	"strings"
	"testing"

	"escutcheon/api"
	"escutcheon/hkdf"
	"escutcheon/wire"
)

// outputs are as many as are asked for, as the chapter tells them.
func outputs(c api.Key, b []byte, n int) []api.Key {
	t := wanted(c[:], b)
	var all []api.Key
	var last []byte
	for number := 1; number <= n; number++ {
		next := wanted(t[:], append(slices.Clone(last), byte(number)))
		all = append(all, next)
		last = next[:]
	}
	return all
}

func checkOutputs(t *testing.T, c api.Key, b []byte, want []api.Key) {
	t.Helper()
	first, second := hkdf.Two(c, b)
	if got := []api.Key{first, second}; !slices.Equal(got, want[:2]) {
		t.Errorf("Two of %s and %d bytes are %v, not %v", told(c), len(b), got, want[:2])
	}
	first, second, third := hkdf.Three(c, b)
	if got := []api.Key{first, second, third}; !slices.Equal(got, want) {
		t.Errorf("Three of %s and %d bytes are %v, not %v", told(c), len(b), got, want)
	}
}

func TestExampleOfTheChapter(t *testing.T) {
	for _, c := range secrets() {
		for _, n := range lengths() {
			first, second := hkdf.Two(c, some(n))
			one, two, _ := hkdf.Three(c, some(n))
			if first != one || second != two {
				t.Errorf("Two and Three of %s and %d bytes begin otherwise", told(c), n)
			}
		}
	}
}

// The outputs, one behind the other, are those of another program that keeps to BLAKE2s and to HKDF.
func TestKnownOutputs(t *testing.T) {
	for _, x := range []struct {
		c, b []byte
		want string
	}{
		{make([]byte, 32), nil, "8387b46bf43eccfcf349552a095d8315c4055beb90208fb1be23b894bc2ed5d058a0e5f6faefccf4807bff1f05fa8a9217945762040bcec2f4b4a62bdfe0e86e0ce6ea98ec548f8e281e93e32db65621c45eb18dc6f0a7ad94178610a2f7338e"},
		{filled(32, 255), filled(32, 255), "9f581ee926d58ee8ec8f1ad233a7a44c45ed791f55998a1b616ec4a40e4c51212aab6fc9f233d482ed67ad4a2935e3e13af6e188fd40f9caf18d02233b33c64654d165eddade570424015bff6b02e18e22b96cb7c57b80ee8155096b75054f7e"},
		{counted(32, 0), nil, "7a38c34bf2b8738d7374ca77c44ecb309a11d2b2528304fa86052c365e7226241a17621f346abdc520746a9fb64d8eb03231d674fc15687537b0780fd9c060fd4eaf02809ac4b930ef63479de62275f1c55656e61f78a3cc653c18a2223d6c5f"},
		{counted(32, 0), counted(1, 9), "092038a74c9788d7b1f0ef120daa048b90f85c0228d04f6fd1c00d27c2a1c99aa36e597ba00e33f5b942ec0cec52cf6541f82ccaeb6d76eaef653343e0ccc79146dedb6c604fa2005637cd04ac774f0e24b05ae7ecc529977ffd2751a95db171"},
		{counted(32, 1), counted(32, 9), "8ce50db39277119f19f399e68e9d9819e4bd6bea0eb8d71e4e2076b92b9638fcedab6039e2f73db09ac3728924cf41fb48bc9062881cb7c52058df6a57afd6d6cb380e94061053487f0b74dd8b4ca9b64c873102332d865e664cb2bdbcc40042"},
		{counted(32, 2), counted(64, 9), "9a9c251b31b972e8bc4154e055aa515bbad771fbd523214ce0f567cc6737fa4490fbc7f1949d083894e873011ccbe2c53a0193dcd81e0315f235047c664c5c77685483f22c9340d76a46dde8f34bd5aed8edd1862e9147dc0b2515ac49a584f1"},
		{counted(32, 3), counted(65, 9), "52aea79b6ba52e4ab98cd06c97679ff096a0b381fd3f0217f834f08e30a55f68303d4f2ca8d7463bc5e71ce6e77b28759e1262d2f93aa81b89a2df5795516a85f2d76f0ac52bc2f18d065c1ef0ce60935928a69e3f798aedb9b80d42fab7ec93"},
		{counted(32, 4), counted(200, 9), "fee73bbe22380c787d0b25ae7cbde847c756829288c598ce7a84ade8d37f415363f8a47041bddc97b01e47c7afc4e9a902138f0f68aedcb7e388c75cc826207bd99153e82524057bdaeb456db71ae9c5d341e497bdf370b114e526d8711636ed"},
	} {
		all := ofHex(t, x.want)
		checkOutputs(t, api.Key(x.c), x.b, []api.Key{api.Key(all[:32]), api.Key(all[32:64]), api.Key(all[64:])})
	}
}

// All lengths up to several blocks; the hash is that of all outputs that such another program answered.
func TestOutputsOfAllLengths(t *testing.T) {
	all := sha256.New()
	for n := range 301 {
		for _, c := range [][]byte{counted(32, n), make([]byte, 32), filled(32, 255)} {
			first, second, third := hkdf.Three(api.Key(c), counted(n, 5*n))
			all.Write(slices.Concat(first[:], second[:], third[:]))
		}
	}
	if got := wire.Hex(all.Sum(nil)); got != "338bbea188a1ac279b2226311ab72f332cc4ce1814aa3acfbd1cd46b4db2546c" {
		t.Errorf("the outputs of all lengths have the hash %s", got)
	}
}

func TestOutputsAreAsTheChapterTellsThem(t *testing.T) {
	for _, c := range secrets() {
		for n := range 3*size + 2 {
			for _, b := range [][]byte{some(n), filled(n, 0), filled(n, 255)} {
				checkOutputs(t, c, b, outputs(c, b, 3))
			}
		}
	}
}

// The library takes the chaining secret for a salt, and the bytes for the secret.
func TestOutputsAreTheLibrarys(t *testing.T) {
	for _, c := range secrets() {
		for _, n := range lengths() {
			all, err := library.Key(newHasher, some(n), c[:], "", 96)
			if err != nil {
				t.Fatal(err)
			}
			checkOutputs(t, c, some(n), []api.Key{api.Key(all[:32]), api.Key(all[32:64]), api.Key(all[64:])})
		}
	}
}

// Each output is the mac of the one ahead of it and its number, by the mac of the bytes, not by the chaining secret.
func TestEachOutputIsTheMacOfTheOneAhead(t *testing.T) {
	for _, c := range secrets() {
		for _, n := range lengths() {
			key := hkdf.Mac(c[:], some(n))
			first, second, third := hkdf.Three(c, some(n))
			if first != hkdf.Mac(key[:], []byte{1}) || second != hkdf.Mac(key[:], first[:], []byte{2}) || third != hkdf.Mac(key[:], second[:], []byte{3}) {
				t.Errorf("the outputs of %s and %d bytes do not follow each other", told(c), n)
			}
		}
	}
}

func TestNoBytesAreNoBytes(t *testing.T) {
	for _, c := range secrets() {
		want := outputs(c, nil, 3)
		for _, b := range [][]byte{nil, {}, make([]byte, 0, 100), some(50)[50:]} {
			checkOutputs(t, c, b, want)
		}
		if first, second, third := hkdf.Three(c, []byte{0}); first == want[0] || second == want[1] || third == want[2] {
			t.Errorf("%s and a nought have outputs of no bytes", told(c))
		}
	}
}

// No two outputs are the same, whatever one bit of the secret or of the bytes is turned.
func TestOutputsHangOnEachBit(t *testing.T) {
	for _, n := range []int{0, 1, 32, 64, 65, 130} {
		c, b, seen := keyOf(10), some(n), map[api.Key]bool{}
		take := func() {
			first, second, third := hkdf.Three(c, b)
			seen[first], seen[second], seen[third] = true, true, true
		}
		take()
		for _, turned := range [][]byte{c[:], b} {
			for bit := range 8 * len(turned) {
				turned[bit/8] ^= 1 << (bit % 8)
				take()
				turned[bit/8] ^= 1 << (bit % 8)
			}
		}
		if want := 3 * (1 + 8*(len(c)+n)); len(seen) != want {
			t.Errorf("a secret and %d bytes, each bit turned: %d outputs of %d", n, len(seen), want)
		}
	}
}

// Which is the secret, and which the bytes, is told apart.
func TestTheSecretIsNotTheBytes(t *testing.T) {
	c, b := keyOf(11), keyOf(12)
	first, second, third := hkdf.Three(c, b[:])
	other, another, last := hkdf.Three(b, c[:])
	if first == other || second == another || third == last {
		t.Error("the secret and the bytes may be swapped")
	}
}

// names are those of no bytes, of one, of many, texts, and bytes that are no text.
func names() []string {
	all := []string{"", "a", "b", "journal", "check", "\x00", "\x00\x00", "a\x00", "\x80", "\xff", "\xff\xfe", "\xc3", "\xc3\xa9", "\xef\xbf\xbd", "\xef\xbf\xbd\xef\xbf\xbd", "\xed\xa0\x80", "\xf4\x90\x80\x80", "e\u0301", "\u00e9 \u4e16 \U0001f511", " a", "a ", "A"}
	for _, n := range []int{31, 32, 33, 63, 64, 65, 128, 1000, 100000} {
		all = append(all, strings.Repeat("n", n), string(some(n)))
	}
	return all
}

func TestKnownNames(t *testing.T) {
	for name, want := range map[string]string{
		"":                        "415e9b4d3980426d4035d9a83fea764b343f7268672ebf9a667a6c308967024a",
		"a":                       "03a01acff53ff3f7aaf0e171a6060fd0012c265a12ba5181821ecfb568fdeff4",
		"journal":                 "8760462beb69c20d90fe9f271d00f9a305ea7bf887bf5af4d779950dce4f24d7",
		"check":                   "0fc34d6a50f163454b418c35a8ab5480867cec131f7a799e46ca792d1a76dd5f",
		"\x00":                    "9ebfc803f5aa5c6bd5833dee98e47d3a87dd3047a7cc1668f581dd971e6fe895",
		"\xff\xfe":                "d013b1113377f61fae5234940f358b9413cc5283089da29f59523e6587588436",
		"\xc3\xa9":                "c68f6fa386bc0a5c4b3822bceed44556bf9b7d379e4ac8a4030d1556a57a05eb",
		"\xef\xbf\xbd":            "afffa4634b66a8ed0a3726e0cab52854e569cba6a1d1e989e82d6a1b03c72bd9",
		"\xed\xa0\x80":            "a8ddf0a86f2f62084eb896528bf218a35649d5443da96d25db9f183dd0d7ef6f",
		strings.Repeat("n", 1000): "2b3dac2c7de668bb5a1f0e1cd93722c9fd15445c7a81d5c729bc7ba1aad154fb",
	} {
		if got := hkdf.Named(api.Key(counted(32, 1)), name); told(got) != want {
			t.Errorf("Named of %d bytes, %.20q, is %s, not %s", len(name), name, told(got), want)
		}
	}
}

func TestNamedIsTheMacOfTheNamesBytes(t *testing.T) {
	for _, c := range secrets() {
		for _, name := range names() {
			got := hkdf.Named(c, name)
			if got != wanted(c[:], []byte(name)) || got != hkdf.Mac(c[:], []byte(name)) {
				t.Errorf("Named of %s and %d bytes, %.20q, is %s", told(c), len(name), name, told(got))
			}
		}
	}
}

func TestNoTwoNamesAreOne(t *testing.T) {
	seen := map[api.Key]string{}
	for _, c := range secrets() {
		for _, name := range names() {
			got := hkdf.Named(c, name)
			if before, is := seen[got]; is {
				t.Errorf("%.20q and %.20q have one secret", before, name)
			}
			seen[got] = name
		}
	}
}

// A name's secret is none of the outputs of its bytes.
func TestNamedIsNoOutput(t *testing.T) {
	for _, name := range names() {
		c := keyOf(13)
		first, second, third := hkdf.Three(c, []byte(name))
		if got := hkdf.Named(c, name); got == first || got == second || got == third {
			t.Errorf("Named of %.20q is an output", name)
		}
	}
}

// Bytes of any kind, and secrets of any kind.
func TestOutputsOfAnything(t *testing.T) {
	x := rand.New(rand.NewSource(2))
	for range 2000 {
		var c api.Key
		x.Read(c[:])
		b := make([]byte, x.Intn(300))
		x.Read(b)
		checkOutputs(t, c, b, outputs(c, b, 3))
		if got := hkdf.Named(c, string(b)); got != wanted(c[:], b) {
			t.Errorf("Named of %s and %q is %s", told(c), b, told(got))
		}
	}
}
