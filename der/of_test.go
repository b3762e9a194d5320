package der_test

import (
	"bytes"
	"encoding/asn1"
	"math/rand"
	"slices"
	"strings"
	"testing"

	"escutcheon/api"
	"escutcheon/der"
	"escutcheon/wire"
)

// checkAny holds what is answered of any bytes against the chapter: they are a value's just where its bytes are they.
func checkAny(t *testing.T, b []byte) {
	t.Helper()
	want, is := taken(b)
	if !is {
		checkNone(t, b)
		return
	}
	checkOf(t, b, want)
	if again, err := der.Bytes(want); err != api.OK || !bytes.Equal(again, b) {
		t.Errorf("%s are a value's of which the bytes are %s, %v", short(b), short(again), err)
	}
}

// All texts of up to two bytes, and those of three that begin by a kind's tag.
func TestShortBytes(t *testing.T) {
	checkNone(t, nil)
	checkNone(t, []byte{})
	found := 0
	for x := range 256 {
		checkNone(t, []byte{byte(x)})
		for y := range 256 {
			checkAny(t, []byte{byte(x), byte(y)})
			for z := range 256 {
				b := []byte{byte(x), byte(y), byte(z)}
				if _, err := der.Of(b); err == api.OK {
					checkAny(t, b)
					found++
				} else if _, is := taken(b); is {
					t.Errorf("%x are a value's, and none is answered", b)
				}
			}
		}
	}
	if want := 2 + 256 + 1 + 256 + (40 + 40 + 48) + 128; found != want { // bools, integers, bits, octets, Oids, texts
		t.Errorf("%d texts of three bytes are a value's, not %d", found, want)
	}
}

// All texts of up to five bytes, and of some more, that are put together of what counts in a tag, a length or content.
func TestBytesOfFewKinds(t *testing.T) {
	letters := []byte{0, 1, 2, 3, 4, 6, 12, 24, 48, 49, 127, 128, 129, 130, 160, 190, 191, 255}
	var goOn func(b []byte, left int)
	goOn = func(b []byte, left int) {
		checkAny(t, b)
		if left > 0 {
			for _, x := range letters {
				goOn(append(b, x), left-1)
			}
		}
	}
	goOn(nil, 4)
	for _, ahead := range [][]byte{{2, 3}, {6, 3}, {3, 3}, {48, 3}, {48, 4, 2}, {160, 3}, {49, 3}, {1, 1}, {2, 9, 0}, {49, 5, 4}, {162, 5, 48}} {
		goOn(ahead, 3)
	}
}

// A value's bytes that are cut short, lengthened, or changed in one place are another value's or none's.
func TestEachByteChanged(t *testing.T) {
	for _, v := range samples() {
		b := bytesOf(t, v)
		for n := range b {
			checkNone(t, b[:n])
		}
		for x := range 256 {
			checkNone(t, append(bytes.Clone(b), byte(x)))
			checkAny(t, append([]byte{byte(x)}, b...))
		}
		checkNone(t, slices.Concat(b, b))
		for i := range b {
			changeAt(t, b, i, len(b) < 250)
		}
	}
}

func changeAt(t *testing.T, b []byte, i int, all bool) {
	t.Helper()
	changed := bytes.Clone(b)
	for x := range 256 {
		if all || x < 4 || byte(x) == b[i]^128 || byte(x) == b[i]+1 || byte(x) == b[i]-1 {
			changed[i] = byte(x)
			checkAny(t, changed)
		}
	}
	checkAny(t, slices.Delete(bytes.Clone(b), i, i+1))
	for _, x := range []byte{0, 1, 127, 128, 129, 130, 255} {
		checkAny(t, slices.Insert(bytes.Clone(b), i, x))
	}
}

// Long values' bytes are changed where their tags and lengths are, and at their end.
func TestLongBytesChanged(t *testing.T) {
	for _, n := range []int{126, 127, 128, 129, 254, 255, 256, 257, 4096, 64995, 64996} {
		for _, v := range filled(n) {
			b := bytesOf(t, v)
			checkOf(t, b, v)
			for _, i := range []int{0, 1, 2, 3, 4, 5, n - 1} {
				changeAt(t, b, i, n < 300 && i < 4)
			}
			checkNone(t, b[:len(b)-1])
			checkNone(t, append(bytes.Clone(b), 0))
		}
	}
}

// refused are bytes that no value has, and why.
var refused = map[string][]string{
	"no such tag": {
		"0000", "000100", "0500", "050100", "0700", "0800", "0900", "0a0101", "0b00", "0d00", "1000", "1100", "13026161", "1600", "17023030", "170d3230303130313030303030305a", "1900", "1a00", "1b00", "1c00", "1e00", "1f00",
		"210101ff", "2100", "2200", "2300", "2400", "24020400", "2600", "2c00", "3200", "3800", "2f00", "40010a", "4200", "8000", "80020201", "8200", "8300", "9e00", "9f00", "bf00", "bf023000", "bf1f023000", "bf0103020101", "c000", "e000", "e0023000", "ff00",
	},
	"a length that is not as short as can be": {
		"02810101", "0281017f", "018101ff", "01820001ff", "0282000101", "048100", "04820000", "0481017f", "0c8100", "308100", "30820000", "3081020400", "a08103020102", "be81023000", "3181023000", "31820002 3000", "18810f32303030303130313030303030305a",
		"0481 7f" + strings.Repeat("00", 127), "0482 007f" + strings.Repeat("00", 127), "0482 0080" + strings.Repeat("00", 128), "0482 00ff" + strings.Repeat("00", 255), "3082 0080" + strings.Repeat("3000", 64),
	},
	"a length of another form": {
		"0480", "04800000", "30800000", "3080", "300430800000", "a0803000 0000", "04830000 00", "0483000001 00", "0484 00000001 00", "0488 0000000000000001 00", "0489 000000000000000001 00", "04ff00", "0483 000100" + strings.Repeat("00", 256),
		"04838000 00", "0484ffffffff", "0484 80000000", "0488 ffffffffffffffff", "0488 8000000000000000", "0488 7fffffffffffffff", "3084ffffffff", "3088 ffffffffffffffff 0400", "3088 8000000000000000", "3088fffffffffffffff63000", "30fe" + strings.Repeat("ff", 126),
	},
	"too few bytes": {
		"", "01", "02", "04", "30", "a0", "0101", "0201", "0402ff", "0481", "048180", "0482", "048201", "04820100", "3001", "300204", "30020401", "30030401", "a0023001", "31020401", "0601", "060255", "0c0161 0c01", "180f3230",
	},
	"bytes left": {
		"010100 00", "0101ff 0101ff", "02010000", "030100 00", "0400 00", "060100 00", "0c00 00", "3000 00", "3000 3000", "a0023000 00", "31023000 00", "180f32303030303130313030303030305a00",
	},
	"kids that are cut otherwise": {
		"3003020100 00", "3004020100 00", "3004 02010002", "3002 020100", "3005 020100 02", "30023001 00", "30033001 00 00", "3005 3003 020100 00", "a003 3001 00", "3003 3002 020100", "30033004020100",
	},
	"bools":    {"0100", "010101", "0101fe", "01017f", "010180", "01020000", "0102ffff", "0102ff00", "010200ff", "0103ffffff"},
	"integers": {"0200", "02020000", "02020001", "0202007f", "0202ff80", "0202ffff", "0202ff81", "0203000000", "02030000ff", "0203007fff", "0203ff8000", "0203ffff7f", "020900ffffffffffffffff", "0209008000000000000000", "0209ff7fffffffffffffff", "0209ffffffffffffffffff", "0209000000000000000001", "0209010000000000000000", "020a00000000000000000001", "0208 00 7fffffffffffff", "0208 ff 80000000000000", "0204000fffff", "0204fff00000"},
	"bits":     {"0300", "030101", "030107", "0301ff", "030201ff", "03020780", "030207 00", "030108", "0302 0800", "0302ff00"},
	"Oids": {
		"0600", "060180", "0602 8000", "06028001", "0602807f", "060255 80", "060355 8000", "06035580 01", "0603550480", "06028181", "060355 0485", "0601ff", "0602ffff", "060355ffff",
		"0606 888080808000", "0605 8880808050", "060a ffffffffffffffffff7f", "060a818080808080808080 00", "060b 81808080808080808080 00", "060c 8180808080808080808001 01", "0606 2a 8880808000", "0606 2a ffffffff7f", "0606 2a 8fffffff7f", "060b 2a 81ffffffffffffffff7f", "060c 2a 8180808080808080808001", "060c2a 8280808080808080808001",
		"0610" + strings.Repeat("01", 16), "0620" + strings.Repeat("00", 32), "06102b" + strings.Repeat("00", 15), "0681 80" + strings.Repeat("01", 128),
	},
	"texts": {
		"0c0180", "0c01ff", "0c01c3", "0c02c328", "0c02c080", "0c02c1bf", "0c03e08080", "0c03eda080", "0c03edbfbf", "0c04f0808080", "0c04f4908080", "0c04f8888080", "0c0361ff62", "0c0162ff", "0c02e4b8", "0c0361e4b8",
	},
	"times": {
		"1800", "180e3230303030313031303030303030", "180e32303030303130313030303030 5a", "181032303030303130313030303030305a00", "1810 323030303031303130303030303030 5a", "180f323030303031303130303030303030", "180f32303030303130313030303030307a", "180f5a303030303130313030303030305a",
		"180f2f303030303130313030303030305a", "180f3a303030303130313030303030305a", "180f32303030303130313030303030 2f5a", "180f32303030303130313030303030 3a5a", "180f20303030303130313030303030305a", "180fff303030303130313030303030305a", "1813 32303030303130313030303030302e3030305a", "180d3030303130313030303030305a", "18010a", "18015a",
		"180f2d303030303130313030303030305a", "1810d9a030303030313031303030303030305a",
	},
	"tags and sets of another number of kids": {
		"a000", "be00", "3100", "a0043000 3000", "be06020101020102", "310430003000", "3106020101020102", "3002a000", "30023100", "a002a000", "31023100", "a0080400040004000400",
	},
}

func TestRefused(t *testing.T) {
	for why, texts := range refused {
		for _, text := range texts {
			b := ofHex(t, text)
			if v, err := der.Of(b); err != api.ErrBytes || !alike(v, api.Der{}) {
				t.Errorf("%s: %s are %s, %v", why, text, told(v), err)
			}
			if _, is := taken(b); is {
				t.Errorf("%s: %s are a value's", why, text)
			}
			// what is no value's is none within others
			for _, kind := range []api.DerKind{api.DerSeq, api.DerTag, api.DerSet} {
				checkAny(t, within([]byte{0x30, 0xa0, 0x31}[kind-api.DerSeq], b))
			}
		}
	}
}

// Bytes that a value has, at the edges that are refused beyond.
func TestTaken(t *testing.T) {
	for text, v := range map[string]api.Der{
		"020100": der.Int(0), "02020080": der.Int(128), "0202ff7f": der.Int(-129), "02087fffffffffffffff": der.Int(1<<63 - 1), "02088000000000000000": der.Int(-1 << 63), "0208ff7fffffffffffff": der.Int(-1<<55 - 1), "02080080000000000000": der.Int(1 << 55),
		"030100": der.Bits(nil), "030200ff": der.Bits([]byte{255}), "0400": der.Octets(nil), "060100": der.Oid(0, 0), "06014f": der.Oid(1, 39), "060150": der.Oid(2, 0), "0605888080804f": der.Oid(2, 1<<31-1), "06062a87ffffff7f": der.Oid(1, 2, 1<<31-1),
		"06028100": der.Oid(2, 48), "060f" + strings.Repeat("01", 15): der.Oid(append([]uint64{0, 1}, slices.Repeat([]uint64{1}, 14)...)...),
		"0c00": der.Text(""), "0c0100": der.Text("\x00"), "0c03ed9fbf": der.Text("\ud7ff"), "0c03ee8080": der.Text("\ue000"), "0c03efbfbd": der.Text("\ufffd"), "0c04f48fbfbf": der.Text("\U0010ffff"), "0c017f": der.Text("\x7f"), "0c02c280": der.Text("\u0080"),
		"3000": der.Seq(), "a0023000": der.Tag(0, der.Seq()), "be023000": der.Tag(30, der.Seq()), "b0023000": der.Tag(16, der.Seq()), "31023000": der.Set(der.Seq()), "180f39393939393939393939393939395a": at("99999999999999Z"),
	} {
		checkOf(t, ofHex(t, text), v)
		checkText(t, text, v)
	}
}

// Values that are 12 deep are taken, and those that are 13 deep are not, whatever they are within.
func TestDeepBytes(t *testing.T) {
	for _, turn := range [][]api.DerKind{{api.DerSeq}, {api.DerTag}, {api.DerSet}, {api.DerSeq, api.DerTag}, {api.DerSet, api.DerSeq, api.DerTag}} {
		for _, last := range []api.Der{der.Int(5), der.Seq(), der.Octets(some(200)), boolean(true)} {
			for deep := 1; deep <= 20; deep++ {
				v := chain(deep, last, turn...)
				beside := raw(api.DerSeq, 0, der.Int(1), v, der.Int(2))
				if deep <= 12 {
					checkOf(t, wanted(v), v)
				} else {
					checkNone(t, wanted(v))
				}
				if deep <= 11 {
					checkOf(t, wanted(beside), beside)
				} else {
					checkNone(t, wanted(beside))
				}
			}
		}
	}
	for _, deep := range []int{100, 1000, 16000} {
		checkNone(t, wanted(chain(deep, der.Seq(), api.DerSeq)))
		checkNone(t, bytes.Repeat([]byte{0x30, 0x80}, deep))
		checkNone(t, bytes.Repeat([]byte{0xa0, 0x7f}, deep))
		checkNone(t, bytes.Repeat([]byte{0x30, 0x82, 0xff, 0xff}, deep))
	}
}

// More than MaxDer bytes are none's, though they are put together as a value's.
func TestTooManyBytes(t *testing.T) {
	for _, n := range []int{65001, 65002, 65535, 65536, 65540, 100000, 1 << 24} {
		checkNone(t, make([]byte, n))
		checkNone(t, wanted(der.Octets(some(n-4))))
		checkNone(t, append(bytesOf(t, der.Octets(some(64996))), some(n-65000)...))
		checkNone(t, bytes.Repeat([]byte{0x30, 0}, n/2+1))
	}
	checkOf(t, wanted(der.Octets(some(64996))), der.Octets(some(64996)))
}

// What the library takes for a number of 64 bits, a bool, an Oid or a list of octets is taken, and nothing else of these tags is.
func TestOfIsTheLibrarys(t *testing.T) {
	x := rand.New(rand.NewSource(3))
	for range 100000 {
		content := make([]byte, x.Intn(11))
		for i := range content {
			content[i] = []byte{0, 1, 127, 128, 129, 255, byte(x.Intn(256))}[x.Intn(7)]
		}
		checkLibrary[int64](t, within(2, content))
		checkLibrary[bool](t, within(1, content))
		checkLibrary[[]byte](t, within(4, content))
	}
}

func checkLibrary[T any](t *testing.T, b []byte) {
	t.Helper()
	var got T
	rest, failed := asn1.Unmarshal(b, &got)
	v, err := der.Of(b)
	if (failed == nil && len(rest) == 0) != (err == api.OK) {
		t.Errorf("%x are %s, %v; the library says %v", b, told(v), err, failed)
	}
	if err != api.OK {
		return
	}
	same := false
	switch want := any(got).(type) {
	case int64:
		same = v.N == want
	case bool:
		same = v.Flag == want
	case []byte:
		same = bytes.Equal(v.Bytes, want)
	}
	if !same {
		t.Errorf("%x are %s; the library takes them for %v", b, told(v), got)
	}
}

// Of of Bytes is the value, and Bytes of Of the bytes; of anything.
func TestOfBytesOfAnything(t *testing.T) {
	x := rand.New(rand.NewSource(1))
	values := 0
	for range 20000 {
		v := anything(x, 4, 0)
		if !allowed(v, 12) {
			continue
		}
		values++
		checkBytes(t, v)
		b := wanted(v)
		if again, err := der.Of(b); err != api.OK || !der.Same(again, v) {
			t.Errorf("Of of Bytes of %s is %s, %v", told(v), told(again), err)
		}
		if len(b) > 0 {
			b[x.Intn(len(b))] = byte(x.Intn(256))
			checkAny(t, b)
			b[x.Intn(len(b))] = byte(x.Intn(256))
			checkAny(t, b)
		}
	}
	if values < 15000 {
		t.Errorf("only %d values may be", values)
	}
}

// No two values have the same bytes.
func TestNoTwoValuesHaveTheSameBytes(t *testing.T) {
	x := rand.New(rand.NewSource(2))
	seen := map[string]api.Der{}
	for range 50000 {
		v := anything(x, 3, 0)
		b, err := der.Bytes(v)
		if err != api.OK {
			continue
		}
		if before, is := seen[string(b)]; is && !alike(before, v) {
			t.Errorf("%s and %s have the bytes %s", told(before), told(v), wire.Hex(b))
		}
		seen[string(b)] = v
	}
}
