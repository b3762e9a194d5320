package scalar_test

import (
	"math"
	"math/big"
	"math/rand"
	"slices"
	"testing"

	"escutcheon/api"
	"escutcheon/scalar"
)

var (
	zero    = big.NewInt(0)
	one     = big.NewInt(1)
	order   = new(big.Int).Add(power(252), decimal("27742317777372353535851937790883648493"))
	all     = plusOf(power(256), -1) // what 32 bytes say at most
	allLong = plusOf(power(512), -1) // what 64 bytes say at most
)

func decimal(text string) *big.Int {
	n, ok := new(big.Int).SetString(text, 10)
	if !ok {
		panic(text)
	}
	return n
}

func power(bits int) *big.Int {
	return new(big.Int).Lsh(one, uint(bits))
}

func plusOf(n *big.Int, k int64) *big.Int {
	return new(big.Int).Add(n, big.NewInt(k))
}

func times(n *big.Int, k int64) *big.Int {
	return new(big.Int).Mul(n, big.NewInt(k))
}

func modulo(n *big.Int) *big.Int {
	return new(big.Int).Mod(n, order)
}

// key writes a number below 2^256, the lowest byte first.
func key(n *big.Int) api.Key {
	var k api.Key
	n.FillBytes(k[:])
	slices.Reverse(k[:])
	return k
}

// long writes a number below 2^512, the lowest byte first.
func long(n *big.Int) api.Long {
	var b api.Long
	n.FillBytes(b[:])
	slices.Reverse(b[:])
	return b
}

func number(k api.Key) *big.Int {
	slices.Reverse(k[:])
	return new(big.Int).SetBytes(k[:])
}

// words is a number of so many words of which each is at an edge, one of L's, or anywhere.
func words(x *rand.Rand, count int) *big.Int {
	n := new(big.Int)
	for range count {
		word := [...]uint64{0, 1, 2, math.MaxUint64, math.MaxUint64 - 1, 1 << 63, 1<<63 - 1, 1 << 60, 1<<60 - 1, 0x5812631a5cf5d3ed, 0x5812631a5cf5d3ec, 0x14def9dea2f79cd6, 0x14def9dea2f79cd5, x.Uint64(), x.Uint64(), x.Uint64()}[x.Intn(16)]
		n.Or(n.Lsh(n, 64), new(big.Int).SetUint64(word))
	}
	return n
}

func random(x *rand.Rand, below *big.Int) *big.Int {
	return new(big.Int).Rand(x, below)
}

// numbers are such as 32 bytes say, scalars and others: small ones, those beside a multiple of L, those beside a power of 2, any.
func numbers() []*big.Int {
	var ns []*big.Int
	for k := range int64(20) {
		ns = append(ns, big.NewInt(k), plusOf(order, k), plusOf(order, -k), plusOf(all, -k))
	}
	for many := int64(2); many <= 15; many++ { // the greatest multiple of L that 32 bytes say
		ns = append(ns, plusOf(times(order, many), -1), times(order, many), plusOf(times(order, many), 1))
	}
	for _, bits := range []int{7, 8, 16, 31, 32, 63, 64, 65, 127, 128, 191, 192, 248, 251, 252, 253, 254, 255} {
		ns = append(ns, plusOf(power(bits), -1), power(bits), plusOf(power(bits), 1))
	}
	half := new(big.Int).Rsh(order, 1)
	ns = append(ns, half, plusOf(half, 1), plusOf(half, -1), plusOf(power(252), -2), number(scalar.Clamp(key(all))))
	x := rand.New(rand.NewSource(1))
	for range 40 {
		ns = append(ns, words(x, 4), random(x, power(256)), random(x, order))
	}
	return ns
}

func TestTheNumbersReachL(t *testing.T) {
	if times(order, 15).Cmp(all) > 0 || times(order, 16).Cmp(all) <= 0 {
		t.Error("15 L is not the greatest multiple that 32 bytes say")
	}
	below, above := 0, 0
	for _, n := range numbers() {
		if n.Cmp(order) < 0 {
			below++
		} else {
			above++
		}
	}
	if below < 50 || above < 50 {
		t.Error(below, "scalars and", above, "others are too few")
	}
}

func TestOrder(t *testing.T) {
	want := api.Key{0xed, 0xd3, 0xf5, 0x5c, 0x1a, 0x63, 0x12, 0x58, 0xd6, 0x9c, 0xf7, 0xa2, 0xde, 0xf9, 0xde, 0x14, 31: 16}
	if got := scalar.Order(); got != want || got != key(order) {
		t.Error("Order() =", got)
	}
	got := scalar.Order()
	got[0], got[31] = 0, 0
	if scalar.Order() != want {
		t.Error("what Order answered once is not the caller's")
	}
}

func TestMay(t *testing.T) {
	for _, n := range numbers() {
		if want := n.Cmp(order) < 0; scalar.May(key(n)) != want {
			t.Errorf("May(%v) = %t", n, !want)
		}
	}
}

func TestMayBesideL(t *testing.T) {
	for k := int64(-300); k <= 300; k++ {
		if got := scalar.May(key(plusOf(order, k))); got != (k < 0) {
			t.Errorf("May(L + %d) = %t", k, got)
		}
	}
}

// Whatever single byte of L, or of a number beside it, is another one, in whichever word.
func TestMayHangsOnEachByte(t *testing.T) {
	for i := range 32 {
		for b := range 256 {
			for _, n := range []*big.Int{plusOf(order, -1), order, plusOf(order, 1), power(252), zero} {
				k := key(n)
				k[i] = byte(b)
				if want := number(k).Cmp(order) < 0; scalar.May(k) != want {
					t.Errorf("May(%v) = %t", number(k), !want)
				}
			}
		}
	}
}

// Each word the same as that of L, more, or less: the highest that is another one decides.
func TestMayHangsOnTheHighestWord(t *testing.T) {
	for ways := range 81 {
		k, rest := key(order), ways
		for word := range 4 {
			switch low := 8 * word; rest % 3 {
			case 1:
				k[low]++
			case 2: // less, but of the third word, which is 0: it is more then
				k[low+7]--
			}
			rest /= 3
		}
		if want := number(k).Cmp(order) < 0; scalar.May(k) != want {
			t.Errorf("May(%v) = %t", number(k), !want)
		}
	}
}

func TestClamp(t *testing.T) {
	for _, n := range numbers() {
		k := key(n)
		got := scalar.Clamp(k)
		for bit := range 256 {
			want := k[bit/8] >> (bit % 8) & 1
			switch bit {
			case 0, 1, 2, 255:
				want = 0
			case 254:
				want = 1
			}
			if got[bit/8]>>(bit%8)&1 != want {
				t.Errorf("Clamp(%v), bit %d: not %d", k, bit, want)
			}
		}
		if k != key(n) {
			t.Errorf("%v was changed by Clamp", n)
		}
		if scalar.Clamp(got) != got {
			t.Errorf("Clamp of what is clamped: %v, then %v", got, scalar.Clamp(got))
		}
	}
}

func TestClampOfEachByte(t *testing.T) {
	for i := range 32 {
		for b := range 256 {
			k, want := api.Key{31: 64}, api.Key{31: 64}
			k[i] = byte(b)
			want[i] = byte(b)
			switch i {
			case 0:
				want[i] = byte(b / 8 * 8)
			case 31:
				want[i] = byte(64 + b%64)
			}
			if got := scalar.Clamp(k); got != want {
				t.Errorf("Clamp, byte %d being %d: %v", i, b, got)
			}
		}
	}
}

func TestClampOfEdges(t *testing.T) {
	if got := scalar.Clamp(api.Key{}); got != (api.Key{31: 64}) {
		t.Error("Clamp of noughts =", got)
	}
	want := key(all)
	want[0], want[31] = 248, 127
	if got := scalar.Clamp(key(all)); got != want {
		t.Error("Clamp of all 255 =", got)
	}
	if got := scalar.Clamp(scalar.Order()); scalar.May(got) || got[0] != 232 || got[31] != 80 {
		t.Error("what is clamped stays as it is, though it is no scalar:", got)
	}
}
