package sign_test

import (
	"bytes"
	"crypto/ed25519"
	"slices"
	"testing"

	"escutcheon/api"
	"escutcheon/sign"
	"escutcheon/wire"
)

// signs holds a signature of one part against the library's, and whether it checks.
func signs(t *testing.T, seed api.Key, message []byte) api.Long {
	t.Helper()
	long := ed25519.NewKeyFromSeed(seed[:])
	want := api.Long(ed25519.Sign(long, message))
	got := sign.Sign(seed, message)
	if got != want {
		t.Errorf("the seed %s: the signature of %d bytes is %s, not %s", wire.Hex(seed[:]), len(message), wire.Hex(got[:]), wire.Hex(want[:]))
	}
	checks(t, api.OK, api.Key(long.Public().(ed25519.PublicKey)), got, message, "what was signed")
	return got
}

func TestExampleOfTheChapter(t *testing.T) {
	for _, x := range seeds() {
		for _, m := range [][]byte{nil, {0}, []byte("a message"), some(300)} {
			if err := sign.Check(sign.Public(x), sign.Sign(x, m), m); err != api.OK {
				t.Errorf("what %s signed: Check is %d", wire.Hex(x[:]), err)
			}
		}
	}
}

func TestPublicIsAsTheLibraryHasIt(t *testing.T) {
	all := seeds()
	for i := range int64(100) {
		all = append(all, seedOf(100+i))
	}
	for _, seed := range all {
		want := api.Key(ed25519.NewKeyFromSeed(seed[:]).Public().(ed25519.PublicKey))
		if got := sign.Public(seed); got != want {
			t.Errorf("the public of %s is %s, not %s", wire.Hex(seed[:]), wire.Hex(got[:]), wire.Hex(want[:]))
		}
	}
}

func TestSignIsAsTheLibraryHasIt(t *testing.T) {
	for i, seed := range seeds() {
		for _, n := range []int{0, 1, 31 + i, 64, 100 + i, 1000} {
			signs(t, seed, some(n))
		}
		signs(t, seed, make([]byte, 1+i))
		signs(t, seed, bytes.Repeat([]byte{255}, 1+i))
	}
}

// With 32 bytes in front of the message, or 64, its hashes come to the end of a block at other lengths.
func TestAllLengths(t *testing.T) {
	seed := seedOf(1)
	for n := range 300 {
		signs(t, seed, some(n))
	}
	signs(t, seed, some(1<<20))
}

// What RFC 8032 prints: seeds, publics, messages, signatures.
func TestKnownSignatures(t *testing.T) {
	for _, x := range [][4]string{
		{
			"9d61b19deffd5a60ba844af492ec2cc44449c5697b326919703bac031cae7f60",
			"d75a980182b10ab7d54bfed3c964073a0ee172f3daa62325af021a68f707511a",
			"",
			"e5564300c360ac729086e2cc806e828a84877f1eb8e5d974d873e065224901555fb8821590a33bacc61e39701cf9b46bd25bf5f0595bbe24655141438e7a100b",
		},
		{
			"4ccd089b28ff96da9db6c346ec114e0f5b8a319f35aba624da8cf6ed4fb8a6fb",
			"3d4017c3e843895a92b70aa74d1b7ebc9c982ccf2ec4968cc0cd55f12af4660c",
			"72",
			"92a009a9f0d4cab8720e820b5f642540a2b27b5416503f8fb3762223ebdb69da085ac1e43e15996e458f3613d0f11d8c387b2eaeb4302aeeb00d291612bb0c00",
		},
		{
			"c5aa8df43f9f837bedb7442f31dcb7b166d38535076f094b85ce3a2e0b4458f7",
			"fc51cd8e6218a1a38da47ed00230f0580816ed13ba3303ac5deb911548908025",
			"af82",
			"6291d657deec24024827e69c3abe01a30ce548a284743a445e3680d7db5ac3ac18ff9b538d16f290ae67f760984dc6594a7c15e9716ed28dc027beceea1ec40a",
		},
		{
			"833fe62409237b9d62ec77587520911e9a759cec1d19755b7da901b96dca3d42",
			"ec172b93ad5e563bf4932c70e1245034c35467ef2efd4d64ebf819683467e2bf",
			"ddaf35a193617abacc417349ae20413112e6fa4e89a97ea20a9eeee64b55d39a2192992a274fc1a836ba3c23a3feebbd454d4423643ce80e2a9ac94fa54ca49f",
			"dc2a4459e7369633a52b1bf277839a00201009a3efbf3ecb69bea2186c26b58909351fc9ac90b3ecfdfbc7c66431e0303dca179c138ac17ad9bef1177331a704",
		},
	} {
		seed, public, message := api.Key(ofHex(t, x[0])), api.Key(ofHex(t, x[1])), ofHex(t, x[2])
		if got := sign.Public(seed); got != public {
			t.Errorf("the public of %s is %s", x[0], wire.Hex(got[:]))
		}
		if got := sign.Sign(seed, message); wire.Hex(got[:]) != x[3] {
			t.Errorf("%s signs %s by %s", x[0], x[2], wire.Hex(got[:]))
		}
		checks(t, api.OK, public, api.Long(ofHex(t, x[3])), message, "a printed signature")
	}
}

func TestNoPartAndEmptyParts(t *testing.T) {
	for _, seed := range seeds()[:6] {
		public, want := sign.Public(seed), signs(t, seed, nil)
		if sign.Sign(seed) != want || sign.Check(public, want) != api.OK {
			t.Errorf("no part is another message than an empty one")
		}
		for _, parts := range [][][]byte{nil, {}, {nil}, {{}}, {nil, {}, nil}, make([][]byte, 500)} {
			if sign.Sign(seed, parts...) != want || sign.Check(public, want, parts...) != api.OK {
				t.Errorf("%d empty parts are another message than none", len(parts))
			}
		}
		m := some(150)
		want = signs(t, seed, m)
		for _, parts := range [][][]byte{{nil, m}, {m, nil}, {{}, m, {}}, {m[:70], nil, {}, m[70:]}, {m[:0], m, m[150:]}} {
			if sign.Sign(seed, parts...) != want || sign.Check(public, want, parts...) != api.OK {
				t.Errorf("empty parts make another message")
			}
		}
	}
}

func TestAMessageInSeveralWaysOfParts(t *testing.T) {
	seed := seedOf(2)
	public := sign.Public(seed)
	for _, n := range []int{1, 2, 63, 64, 65, 97, 130, 200} {
		m := some(n)
		want := signs(t, seed, m)
		for cut := range n + 1 {
			next := cut + (n-cut)/2
			parts := [][]byte{m[:cut], m[cut:next], m[next:]}
			if sign.Sign(seed, parts...) != want {
				t.Errorf("%d bytes, cut at %d and %d, have another signature", n, cut, next)
			}
			if err := sign.Check(public, want, parts...); err != api.OK {
				t.Errorf("the signature of %d bytes, cut at %d and %d: Check is %d", n, cut, next, err)
			}
		}
		for _, size := range []int{1, 3, 32, 64} {
			parts := slices.Collect(slices.Chunk(m, size))
			if sign.Sign(seed, parts...) != want || sign.Check(public, want, parts...) != api.OK {
				t.Errorf("%d bytes, in parts of %d, have another signature", n, size)
			}
		}
	}
}

// Which bytes the message is, and their order, is what is signed; where a part ends isn't.
func TestThePartsOrder(t *testing.T) {
	seed := seedOf(3)
	a, b := []byte("ab"), []byte("c")
	got := sign.Sign(seed, a, b)
	if got != signs(t, seed, []byte("abc")) || got != sign.Sign(seed, []byte("a"), []byte("bc")) {
		t.Error("where a part ends is signed")
	}
	if got == sign.Sign(seed, b, a) || sign.Sign(seed, b, a) != signs(t, seed, []byte("cab")) {
		t.Error("the parts' order is not signed")
	}
	for _, parts := range [][][]byte{{b, a}, {a}, {b}, {a, b, b}, {a, a, b}, {}, {a, b, {0}}, {{0}, a, b}} {
		if err := sign.Check(sign.Public(seed), got, parts...); err != api.ErrAuth {
			t.Errorf("the signature of other parts: Check is %d", err)
		}
	}
}

// What is signed is the same whenever it is signed, and hangs on each bit of the seed and of the message.
func TestSignHangsOnEachBit(t *testing.T) {
	seed, m := seedOf(4), some(40)
	first := sign.Sign(seed, m)
	seen := map[api.Key]bool{}
	take := func(sig api.Long) {
		r, s := parted(sig)
		if seen[r] || seen[s] {
			t.Errorf("%s: R or s is there twice", wire.Hex(sig[:]))
		}
		seen[r], seen[s] = true, true
	}
	take(first)
	publics := map[api.Key]bool{sign.Public(seed): true}
	for bit := range 256 {
		other := seed
		turned(other[:], bit)
		take(sign.Sign(other, m))
		publics[sign.Public(other)] = true
	}
	for bit := range 8 * len(m) {
		other := slices.Clone(m)
		turned(other, bit)
		take(sign.Sign(seed, other))
	}
	if len(publics) != 257 {
		t.Error("only", len(publics), "publics of 257 seeds")
	}
	if sign.Sign(seed, m) != first {
		t.Error("signed again, it has another signature")
	}
}
