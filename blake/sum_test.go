package blake_test

import (
	"bytes"
	"crypto/sha256"
	"math/rand"
	"slices"
	"strings"
	"testing"

	"escutcheon/api"
	"escutcheon/blake"
	"escutcheon/wire"
)

// lengths are those about the ends of blocks.
func lengths() []int {
	return []int{0, 1, 2, 3, 4, 5, 62, 63, 64, 65, 66, 127, 128, 129, 191, 192, 193, 255, 256, 257, 639, 640, 641}
}

func checkKnown(t *testing.T, message []byte, want string) {
	t.Helper()
	if got := blake.Sum(message); wire.Hex(got[:]) != want {
		t.Errorf("Sum of %d bytes is %s, not %s", len(message), wire.Hex(got[:]), want)
	}
}

func TestExampleOfTheChapter(t *testing.T) {
	if got := blake.Sum([]byte("abc")); !bytes.Equal(got[:4], []byte{80, 140, 94, 140}) {
		t.Error("Sum(abc) =", got)
	}
}

// The hash of abc is the one that RFC 7693 prints, the others are those of another program that keeps to it.
func TestKnownHashes(t *testing.T) {
	for message, want := range map[string]string{
		"":    "69217a3079908094e11121d042354a7c1f55b6482ca1a51e1b250dfd1ed0eef9",
		"abc": "508c5e8c327c14e2e1a72ba34eeb452f37458b209ed63a294d999b4c86675982",
		"The quick brown fox jumps over the lazy dog": "606beeec743ccbeff6cbcdf5d5302aa855c256c29b88c8ed331ea1a6bf3c8812",
		strings.Repeat("a", 1000000):                  "bec0c0e6cde5b67acb73b81f79a67a4079ae1c60dac9d2661af18e9f8b50dfa5",
	} {
		checkKnown(t, []byte(message), want)
	}
	for n, want := range map[int]string{
		1:   "e34d74dbaf4ff4c6abd871cc220451d2ea2648846c7757fbaac82fe51ad64bea",
		2:   "ddad9ab15dac4549ba42f49d262496bef6c0bae1dd342a8808f8ea267c6e210c",
		63:  "e57cb79487dd57902432b250733813bd96a84efce59f650fac26e6696aefafc3",
		64:  "56f34e8b96557e90c1f24b52d0c89d51086acf1b00f634cf1dde9233b8eaaa3e",
		65:  "1b53ee94aaf34e4b159d48de352c7f0661d0a40edff95a0b1639b4090e974472",
		255: "f03f5789d3336b80d002d59fdf918bdb775b00956ed5528e86aa994acb38fe2d",
	} {
		checkKnown(t, counted(n, 0), want)
	}
}

// Noughts, and all ones, as that program hashes them.
func TestKnownNoughtsAndOnes(t *testing.T) {
	for _, x := range []struct {
		with byte
		n    int
		want string
	}{
		{0, 1, "e34d74dbaf4ff4c6abd871cc220451d2ea2648846c7757fbaac82fe51ad64bea"},
		{0, 63, "d962856f3fcfaac80a84722012c38da68cce6b924a397d5a3db009babefdee61"},
		{0, 64, "ae09db7cd54f42b490ef09b6bc541af688e4959bb8c53f359a6f56e38ab454a3"},
		{0, 65, "857328bf990b00922782d3e81c6054c25d3375d386c7424abe3e01d79041046c"},
		{0, 127, "301830ab384e3c00d5295e835228dfb68ff1a68e73c20a92da27353d7f654852"},
		{0, 128, "4e420520b981ce7bdbf4ce2c4dbadb9450079b7deb9737b5232957d323f801cb"},
		{0, 129, "7ca3700762f3e0db5d2f32e782efa249295ad56fce3cc1eac8170efc713b7fbf"},
		{255, 1, "8a1ef126b4e286703744a80b2f414be700cc93023e7bfc8688b79b54931abd27"},
		{255, 63, "05daad389157a42cc113caf1ac125542a97d24841dff958d5587fcc78b5216f9"},
		{255, 64, "ee92d9d765aac654bc062ea8e24456bb1a73c86643bdac7ec4ff2efd81721063"},
		{255, 65, "2cdc288f2a3d1a134cfcf796f235c13931f9b01b43074e052f98d5012a603ad6"},
		{255, 127, "5e8cc60d109137a99390bd44dda6fe56516cb8e584b8251203fe0c806f7204ac"},
		{255, 128, "20dfe3ad1ecfd9d3e9e9f0762349556b1f4e79701719cfb4933e42fdc6542df0"},
		{255, 129, "e514f785f95386f3c8b70282f576adf052e8045b5f59f123c1e2fc957d81ae10"},
	} {
		checkKnown(t, filled(x.n, x.with), x.want)
	}
}

// All lengths up to several blocks; what is held against is a hash of all that such another program answered.
func TestAllLengths(t *testing.T) {
	all := sha256.New()
	for n := range 701 {
		for _, message := range [][]byte{counted(n, n), filled(n, 0), filled(n, 255)} {
			hash := blake.Sum(message)
			all.Write(hash[:])
		}
	}
	if got := wire.Hex(all.Sum(nil)); got != "f9084e6bd4f98e0de86f880f796daac802a4fc9bbe2c262853238fc77a5811dd" {
		t.Errorf("the hashes of all lengths have the hash %s", got)
	}
}

// Lengths that need a second, a third and a fourth byte; held against as all lengths are.
func TestManyBytes(t *testing.T) {
	all := sha256.New()
	for _, n := range []int{255, 256, 257, 4096, 1<<16 - 1, 1 << 16, 1<<16 + 1, 1<<24 - 1, 1 << 24, 1<<24 + 1} {
		b := counted(n, n)
		hash := blake.Sum(b)
		all.Write(hash[:])
		if hash != blake.Sum(b[:n/3], b[n/3:]) {
			t.Errorf("%d bytes have another hash in two parts", n)
		}
	}
	if got := wire.Hex(all.Sum(nil)); got != "8840540c122ee8ed5288be0d89bb00ee6743bc00d8d87a35bda8c2f2d7e5e423" {
		t.Errorf("the hashes of many bytes have the hash %s", got)
	}
}

func TestSumIsAsTheChapterTellsIt(t *testing.T) {
	r := newReference()
	for n := range 10*size + 2 {
		check(t, r, some(n))
		check(t, r, filled(n, 0))
		check(t, r, filled(n, 255))
	}
}

func TestNoParts(t *testing.T) {
	none := newReference().sum(nil)
	for _, parts := range [][][]byte{nil, {}, {nil}, {{}}, {nil, {}, nil}, {some(50)[50:], make([]byte, 0, 100)}, make([][]byte, 1000)} {
		if got := blake.Sum(parts...); got != none {
			t.Errorf("Sum of %d parts without a byte is %v", len(parts), got)
		}
	}
	if blake.Sum() != none {
		t.Error("Sum of no parts is", blake.Sum())
	}
}

func TestEmptyPartsAddNothing(t *testing.T) {
	r := newReference()
	for _, n := range lengths() {
		b := some(n)
		want := r.sum(b)
		for _, parts := range [][][]byte{{nil, b}, {b, nil}, {{}, b, {}}, {b[:n/2], nil, {}, b[n/2:]}, {b[:0], b, b[n:]}} {
			if blake.Sum(parts...) != want {
				t.Errorf("an empty part changes the hash of %d bytes", n)
			}
		}
		single := [][]byte{nil}
		for i := range b {
			single = append(single, b[i:i+1], nil, []byte{})
		}
		if blake.Sum(single...) != want {
			t.Errorf("%d bytes, each a part with empty ones between, have another hash", n)
		}
	}
}

func TestPartsAreCutAnywhere(t *testing.T) {
	r := newReference()
	for _, n := range lengths() {
		b := some(n)
		want := r.sum(b)
		for cut := range n + 1 {
			if blake.Sum(b[:cut], b[cut:]) != want || blake.Sum(b[:cut], nil, b[cut:]) != want {
				t.Errorf("%d bytes, cut at %d, have another hash", n, cut)
			}
		}
	}
	for _, n := range []int{63, 64, 65, 128, 129, 150} {
		b := some(n)
		want := r.sum(b)
		for cut := range n + 1 {
			for next := cut; next <= n; next++ {
				if blake.Sum(b[:cut], b[cut:next], b[next:]) != want {
					t.Errorf("%d bytes, cut at %d and %d, have another hash", n, cut, next)
				}
			}
		}
	}
}

func TestManyParts(t *testing.T) {
	r := newReference()
	for _, n := range []int{1000, 1024} {
		b := some(n)
		for part := 1; part <= 3*size+1; part++ {
			check(t, r, slices.Collect(slices.Chunk(b, part))...)
		}
	}
	x := rand.New(rand.NewSource(1))
	for range 1000 {
		var parts [][]byte
		for range x.Intn(12) {
			parts = append(parts, some(x.Intn(x.Intn(200)+1)))
		}
		check(t, r, parts...)
	}
}

// The parts' order, and which bytes they are, is in the hash; where one ends isn't.
func TestThePartsOrder(t *testing.T) {
	a, b := []byte("ab"), []byte("c")
	if blake.Sum(a, b) != blake.Sum([]byte("abc")) || blake.Sum(a, b) != blake.Sum([]byte("a"), []byte("bc")) {
		t.Error("where a part ends is in the hash")
	}
	if blake.Sum(b, a) != blake.Sum([]byte("cab")) || blake.Sum(a, b) == blake.Sum(b, a) {
		t.Error("the parts' order is not in the hash")
	}
}

func TestTheHashHangsOnEachBit(t *testing.T) {
	for _, n := range []int{1, 63, 64, 65, 128, 130} {
		b := some(n)
		seen := map[api.Key]int{blake.Sum(b): -1}
		for bit := range 8 * n {
			b[bit/8] ^= 1 << (bit % 8)
			got := blake.Sum(b)
			if before, is := seen[got]; is {
				t.Errorf("bits %d and %d of %d bytes: turned, the hash is the same", before, bit, n)
			}
			seen[got] = bit
			b[bit/8] ^= 1 << (bit % 8)
		}
	}
}

// Noughts that a message ends in are not those that its last block is filled up with.
func TestNoughtsAreCounted(t *testing.T) {
	seen := map[api.Key]bool{}
	for n := range 300 {
		seen[blake.Sum(make([]byte, n))] = true
		seen[blake.Sum([]byte("abc"), make([]byte, n))] = true
	}
	if len(seen) != 600 {
		t.Error("600 messages come to", len(seen), "hashes")
	}
}
