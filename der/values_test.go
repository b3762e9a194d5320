package der_test

import (
	"math"
	"strings"
	"testing"

	"escutcheon/api"
	"escutcheon/der"
)

// checkValue asks for just the fields that are told.
func checkValue(t *testing.T, got, want api.Der) {
	t.Helper()
	if !alike(got, want) || !der.Same(got, want) {
		t.Errorf("%s is not %s", told(got), told(want))
	}
}

func TestInt(t *testing.T) {
	for _, n := range []int64{0, 1, -1, 255, 1 << 40, math.MaxInt64, math.MinInt64} {
		checkValue(t, der.Int(n), api.Der{Kind: 2, N: n})
	}
}

func TestText(t *testing.T) {
	for _, s := range []string{"", "a", "\u4e16", "\xff", "\xed\xa0\x80", "20000101000000Z", strings.Repeat("a", 100000)} {
		checkValue(t, der.Text(s), api.Der{Kind: 6, Text: s})
	}
}

func TestOctetsAndBits(t *testing.T) {
	for _, n := range []int{0, 1, 2, 31, 127, 128, 255, 256, 64995, 64996, 64997, 100000} {
		checkValue(t, der.Octets(some(n)), api.Der{Kind: 4, Bytes: some(n)})
		checkValue(t, der.Bits(some(n)), api.Der{Kind: 3, Bytes: some(n)})
	}
	checkValue(t, der.Octets(nil), api.Der{Kind: 4})
	checkValue(t, der.Bits(nil), api.Der{Kind: 3})
	checkValue(t, der.Octets([]byte{}), api.Der{Kind: 4})
	checkValue(t, der.Bits([]byte{}), api.Der{Kind: 3})
}

func TestOid(t *testing.T) {
	for _, arcs := range [][]uint64{nil, {}, {0}, {3}, {2, 5, 4, 3}, {0, 40}, {math.MaxUint64, 1 << 31}, make([]uint64, 17), make([]uint64, 1000)} {
		checkValue(t, der.Oid(arcs...), api.Der{Kind: 5, Arcs: arcs})
	}
}

func TestSeqTagAndSet(t *testing.T) {
	checkValue(t, der.Seq(), api.Der{Kind: 7})
	checkValue(t, der.Seq([]api.Der{}...), api.Der{Kind: 7})
	kids := append(samples(), api.Der{}, api.Der{Kind: 11, Flag: true, N: -5, Bytes: some(3), Text: "\xff", Arcs: []uint64{9}, Kids: samples()})
	for n := range kids {
		checkValue(t, der.Seq(kids[:n]...), api.Der{Kind: 7, Kids: kids[:n]})
		checkValue(t, der.Set(kids[n]), api.Der{Kind: 9, Kids: kids[n : n+1]})
		for _, tag := range []int{0, 1, 30, 31, -1, 256, math.MaxInt, math.MinInt} {
			checkValue(t, der.Tag(tag, kids[n]), api.Der{Kind: 8, N: int64(tag), Kids: kids[n : n+1]})
		}
	}
	checkValue(t, der.Seq(kids...), api.Der{Kind: 7, Kids: kids})
}

// Values that may not be are put together, too, however deep they are.
func TestValuesThatMayNotBe(t *testing.T) {
	v := der.Oid(7)
	for deep := 1; deep <= 40; deep++ {
		checkMayNot(t, v)
		checkMayNot(t, der.Seq(v))
		checkMayNot(t, der.Set(v))
		checkMayNot(t, der.Tag(deep%31, v))
		checkValue(t, v, chain(deep, der.Oid(7), api.DerSeq))
		v = der.Seq(v)
	}
	v = der.Seq()
	for deep := 1; deep <= 40; deep++ {
		checkDeep(t, deep, v)
		checkValue(t, der.Set(v), api.Der{Kind: 9, Kids: []api.Der{v}})
		v = der.Seq(v)
	}
}
