package der_test

import (
	"math"
	"math/rand"
	"slices"
	"strings"
	"testing"

	"escutcheon/api"
	"escutcheon/der"
)

// plain is a value of a kind that may be, with zero in what may be zero.
func plain(kind api.DerKind) api.Der {
	v := api.Der{Kind: kind}
	switch kind {
	case api.DerOid:
		v.Arcs = []uint64{0, 0}
	case api.DerTag, api.DerSet:
		v.Kids = []api.Der{der.Seq()}
	case api.DerTime:
		v.Text = "00000000000000Z"
	}
	return v
}

func TestKindsThatAreNone(t *testing.T) {
	for kind := api.DerKind(-300); kind <= 300; kind++ {
		v := plain(kind)
		if kind >= 1 && kind <= 10 {
			checkBytes(t, v)
		} else {
			checkMayNot(t, v)
			checkMayNot(t, raw(api.DerSeq, 0, v))
		}
	}
	for _, far := range []api.DerKind{math.MaxInt, math.MinInt, 1 << 32, 1<<32 + 2, 1<<62 + 2, 1 << 16, 1<<8 + 1, -1 << 32} {
		for kind := range api.DerKind(12) {
			v := plain(kind)
			v.Kind += far
			checkMayNot(t, v)
		}
	}
	checkMayNot(t, api.Der{})
	for _, v := range []api.Der{{Flag: true}, {N: 1}, {Bytes: some(3)}, {Text: "a"}, {Arcs: []uint64{1, 2}}, {Kids: []api.Der{der.Int(1)}}} {
		checkMayNot(t, v)
		for _, kind := range []api.DerKind{-1, 11, 12, 255, 256} {
			v.Kind = kind
			checkMayNot(t, v)
		}
	}
}

// What a kind does not name has to be zero; what it names need not be.
func TestWhatAKindDoesNotName(t *testing.T) {
	fields := map[string]func(v *api.Der){
		"F": func(v *api.Der) { v.Flag = true },
		"N": func(v *api.Der) { v.N = 1 },
		"B": func(v *api.Der) { v.Bytes = []byte{0} },
		"T": func(v *api.Der) { v.Text = "20000101000000Z" },
		"A": func(v *api.Der) { v.Arcs = []uint64{1, 2} },
		"K": func(v *api.Der) { v.Kids = []api.Der{der.Int(7)} },
	}
	for _, kind := range kinds {
		for field, set := range fields {
			v := plain(kind)
			set(&v)
			if strings.Contains(named[kind], field) {
				checkBytes(t, v)
				continue
			}
			checkMayNot(t, v)
			for _, within := range []api.DerKind{api.DerSeq, api.DerTag, api.DerSet} {
				checkMayNot(t, raw(within, 0, v))
			}
			checkMayNot(t, raw(api.DerSeq, 0, der.Int(1), v, der.Int(2)))
			checkMayNot(t, chain(12, v, api.DerSeq, api.DerTag))
		}
	}
}

func TestNumbersThatAreNotNamed(t *testing.T) {
	for _, n := range []int64{1, -1, 30, 255, 256, 1 << 32, math.MaxInt64, math.MinInt64} {
		for _, kind := range kinds {
			v := plain(kind)
			v.N = n
			switch {
			case kind == api.DerInt || kind == api.DerTag && n == 1 || kind == api.DerTag && n == 30:
				checkBytes(t, v)
			default:
				checkMayNot(t, v)
			}
		}
	}
}

func TestNilAndEmptyListsAreOne(t *testing.T) {
	for _, kind := range kinds {
		v := plain(kind)
		want, _ := der.Bytes(v)
		if len(v.Kids) == 0 {
			v.Kids = []api.Der{}
		}
		if len(v.Arcs) == 0 {
			v.Arcs = []uint64{}
		}
		v.Bytes = []byte{}
		if b, err := der.Bytes(v); err != api.OK || string(b) != string(want) || !der.May(v) {
			t.Errorf("with empty lists, the bytes of %s are %s, %v", told(v), short(b), err)
		}
		v.Bytes = some(5)[5:]
		if kind != api.DerOid {
			v.Arcs = []uint64{3, 3}[:0]
		}
		if len(v.Kids) == 0 {
			v.Kids = []api.Der{{Kind: 20}}[:0]
		}
		if b, err := der.Bytes(v); err != api.OK || string(b) != string(want) || !der.May(v) {
			t.Errorf("with lists that have room, the bytes of %s are %s, %v", told(v), short(b), err)
		}
	}
}

// Oids of two to sixteen arcs may be, and no others.
func TestHowManyArcs(t *testing.T) {
	for _, first := range []uint64{0, 1, 2} {
		for _, other := range []uint64{0, 1, 39, 127, 128, 1<<31 - 1} {
			for n := range 40 {
				arcs := slices.Repeat([]uint64{other}, n)
				if n > 0 {
					arcs[0] = first
				}
				if n > 1 && first < 2 {
					arcs[1] = min(other, 39)
				}
				if n >= 2 && n <= 16 {
					checkBytes(t, der.Oid(arcs...))
				} else {
					checkMayNot(t, der.Oid(arcs...))
				}
			}
		}
	}
}

// No arc may be above 2^31 - 1, wherever it is.
func TestArcsThatAreTooMuch(t *testing.T) {
	for i := range 16 {
		for _, odd := range []uint64{1 << 31, 1<<31 + 1, 1<<32 - 1, 1 << 32, 1<<32 + 1, 1 << 35, 1 << 63, math.MaxUint64, math.MaxUint64 - 79, math.MaxUint64 - 80} {
			arcs := slices.Repeat([]uint64{2}, 16)
			arcs[i] = odd
			checkMayNot(t, der.Oid(arcs...))
			checkMayNot(t, der.Seq(der.Oid(arcs...)))
		}
		arcs := slices.Repeat([]uint64{2}, 16)
		arcs[i] = 1<<31 - 1
		if i == 0 {
			checkMayNot(t, der.Oid(arcs...))
		} else {
			checkBytes(t, der.Oid(arcs...))
		}
	}
}

func TestTextsThatAreNone(t *testing.T) {
	for _, s := range []string{"\x80", "\xff", "\xc3", "\xc0\x80", "\xc1\xbf", "\xe0\x80\x80", "\xe0\x9f\xbf", "\xed\xa0\x80", "\xed\xbf\xbf", "\xf0\x80\x80\x80", "\xf0\x8f\xbf\xbf", "\xf4\x90\x80\x80", "\xf5\x80\x80\x80", "\xf8\x88\x80\x80\x80", "\xc3(", "\xe4\xb8", "a\xff", "\xffa", "abc\xe4\xb8\xadd\x80", strings.Repeat("a", 1000) + "\xc3"} {
		checkMayNot(t, der.Text(s))
		checkMayNot(t, der.Set(der.Text(s)))
	}
	for _, s := range []string{"", "a", "\x00", "\n", "\x7f", "\u0080", "\u07ff", "\u0800", "\ud7ff", "\ue000", "\ufffd", "\uffff", "\U00010000", "\U0010ffff", "e\u0301", " ", "\ufeff", strings.Repeat("\u4e16", 1000)} {
		checkBytes(t, der.Text(s))
		checkBytes(t, der.Set(der.Text(s)))
	}
}

func TestTimes(t *testing.T) {
	for _, s := range []string{"20000101000000Z", "99991231235959Z", "00000000000000Z", "99999999999999Z", "12345678901234Z"} {
		checkBytes(t, at(s))
	}
	for _, s := range []string{"", "Z", "2", "20000101000000", "200001010000000", "2000010100000Z", "200001010000000Z", "20000101000000z", "2000010100000ZZ", "Z20000101000000", "20000101000000Z\x00", "20000101000000Z ", " 20000101000000Z",
		"20000101000000+", "20000101 00000Z", "2000-01-01 00:Z", "20000101000000.", "20000101000000.0Z", "200001010000Z", "20000101000000+0000", "\u0660\u0660\u0660\u0660\u0660\u0660\u0660Z", "2000010100000\u0660Z", "\u06602000010100000Z", "\u0662000010100000Z", "2000010100000\xffZ", strings.Repeat("0", 15)} {
		checkMayNot(t, at(s))
	}
	for i := range 15 {
		for x := range 256 {
			b := []byte("20261120120000Z")
			b[i] = byte(x)
			if x >= '0' && x <= '9' && i < 14 || x == 'Z' && i == 14 {
				checkBytes(t, at(string(b)))
			} else {
				checkMayNot(t, at(string(b)))
			}
		}
	}
}

func TestTags(t *testing.T) {
	for n := -300; n <= 300; n++ {
		v := der.Tag(n, der.Int(1))
		if n >= 0 && n <= 30 {
			checkBytes(t, v)
		} else {
			checkMayNot(t, v)
			checkMayNot(t, der.Seq(v))
		}
	}
	for _, n := range []int{1 << 8, 1 << 16, 1 << 32, 1<<32 + 3, 1<<62 + 3, math.MaxInt, math.MinInt, math.MinInt + 3} {
		checkMayNot(t, der.Tag(n, der.Int(1)))
	}
}

// Tags and sets are of one kid; sequences of any number.
func TestHowManyKids(t *testing.T) {
	for n := range 40 {
		kids := slices.Repeat([]api.Der{der.Int(int64(n))}, n)
		checkBytes(t, raw(api.DerSeq, 0, kids...))
		for _, v := range []api.Der{raw(api.DerSet, 0, kids...), raw(api.DerTag, 0, kids...), raw(api.DerTag, 30, kids...)} {
			if n == 1 {
				checkBytes(t, v)
			} else {
				checkMayNot(t, v)
				checkMayNot(t, der.Seq(v))
			}
		}
	}
}

// Up to 12 values one within the other may be, and no more, whatever they are.
func TestDeepValues(t *testing.T) {
	for _, turn := range [][]api.DerKind{{api.DerSeq}, {api.DerTag}, {api.DerSet}, {api.DerSeq, api.DerTag}, {api.DerTag, api.DerSet, api.DerSeq}} {
		for _, last := range []api.Der{der.Int(5), der.Seq(), der.Bits(some(3)), der.Oid(1, 2), der.Text("a"), at("20261120120000Z")} {
			for deep := 1; deep <= 30; deep++ {
				checkDeep(t, deep, chain(deep, last, turn...))
			}
		}
	}
	// the deepest way down counts, wherever it is
	for deep := 1; deep <= 14; deep++ {
		long := chain(deep, der.Seq(), api.DerSeq)
		checkDeep(t, deep+1, raw(api.DerSeq, 0, der.Int(1), der.Seq(der.Seq()), long))
		checkDeep(t, deep+1, raw(api.DerSeq, 0, long, der.Int(1), der.Seq(der.Seq())))
		checkDeep(t, deep+2, raw(api.DerSeq, 0, der.Seq(), raw(api.DerTag, 3, raw(api.DerSeq, 0, long.Kids...)), raw(api.DerTag, 4, long)))
	}
}

func checkDeep(t *testing.T, deep int, v api.Der) {
	t.Helper()
	if deep <= 12 {
		checkBytes(t, v)
	} else {
		checkMayNot(t, v)
	}
}

// One list may be within a value more than once, at different depths.
func TestOneListAtDifferentDepths(t *testing.T) {
	for deep := 1; deep <= 14; deep++ {
		shared := chain(deep, der.Seq(), api.DerSeq)
		for down := range 14 {
			v := raw(api.DerSeq, 0, shared, chain(down+1, shared, api.DerSeq), shared)
			checkDeep(t, deep+down+1, v)
		}
	}
}

// May hangs on nothing but the value: also of those that are very long.
func TestLongValuesMayBe(t *testing.T) {
	for _, v := range []api.Der{der.Octets(make([]byte, 1<<24)), der.Bits(make([]byte, 70000)), der.Text(strings.Repeat("a", 1<<24)), raw(api.DerSeq, 0, slices.Repeat([]api.Der{der.Octets(some(100))}, 100000)...), chain(12, der.Octets(some(65000)), api.DerTag)} {
		if !der.May(v) {
			t.Errorf("%s may not be", told(v))
		}
		if b, err := der.Bytes(v); err != api.ErrLong || b != nil {
			t.Errorf("the bytes of %s are %s, %v", told(v), short(b), err)
		}
	}
}

func TestMayIsAsTheChapterTellsIt(t *testing.T) {
	x := rand.New(rand.NewSource(4))
	var count [2]int
	for range 100000 {
		v := anything(x, 4, 100)
		if allowed(v, 12) {
			count[1]++
			if !der.May(v) {
				t.Errorf("%s may not be", told(v))
			}
		} else {
			count[0]++
			checkMayNot(t, v)
		}
	}
	if min(count[0], count[1]) < 10000 {
		t.Errorf("of the values, %d may not be, and %d may", count[0], count[1])
	}
}
