package der_test

import (
	"crypto/sha256"
	"encoding/asn1"
	"math"
	"slices"
	"strings"
	"testing"

	"escutcheon/api"
	"escutcheon/der"
	"escutcheon/wire"
)

func TestExamplesOfTheChapter(t *testing.T) {
	checkText(t, "02020080", der.Int(128))
	checkText(t, "020180", der.Int(-128))
	checkText(t, "0603550403", der.Oid(2, 5, 4, 3))
	checkNone(t, ofHex(t, "0202007f"))
	checkNone(t, ofHex(t, "010101"))
}

func TestEachKind(t *testing.T) {
	checkText(t, "010100", boolean(false))
	checkText(t, "0101ff", boolean(true))
	checkText(t, "020107", der.Int(7))
	checkText(t, "030100", der.Bits(nil))
	checkText(t, "03040000ff80", der.Bits([]byte{0, 255, 128}))
	checkText(t, "0400", der.Octets(nil))
	checkText(t, "040300ff80", der.Octets([]byte{0, 255, 128}))
	checkText(t, "06032b6570", der.Oid(1, 3, 101, 112))
	checkText(t, "0c00", der.Text(""))
	checkText(t, "0c0bc3a920e4b89620f09f9491", der.Text("\u00e9 \u4e16 \U0001f511"))
	checkText(t, "3000", der.Seq())
	checkText(t, "30060201010101ff", der.Seq(der.Int(1), boolean(true)))
	checkText(t, "a003020102", der.Tag(0, der.Int(2)))
	checkText(t, "be023000", der.Tag(30, der.Seq()))
	checkText(t, "31020400", der.Set(der.Octets(nil)))
	checkText(t, "180f32303030303130313030303030305a", at("20000101000000Z"))
}

// A value that OpenSSL put together, and a public of RFC 8410.
func TestKnownValues(t *testing.T) {
	name := der.Set(der.Seq(der.Oid(2, 5, 4, 3), der.Text("escutcheon")))
	algorithm := der.Seq(der.Oid(1, 3, 101, 112))
	checkText(t, "305da00302010202018002020080300506032b65703113301106035504030c0a65736375746368656f6e180f32303030303130313030303030305a0101ff0101000c0bc3a920e4b89620f09f949103040000ff8004050102030405be023000",
		der.Seq(der.Tag(0, der.Int(2)), der.Int(-128), der.Int(128), algorithm, name, at("20000101000000Z"), boolean(true), boolean(false),
			der.Text("\u00e9 \u4e16 \U0001f511"), der.Bits([]byte{0, 255, 128}), der.Octets([]byte{1, 2, 3, 4, 5}), der.Tag(30, der.Seq())))
	public := "19bf44096984cdfe8541bac167dc3b96c85086aa30b6b6cb0c5c38ad703166e1"
	checkText(t, "302a300506032b6570032100"+public, der.Seq(algorithm, der.Bits(ofHex(t, public))))
}

func TestSamples(t *testing.T) {
	for _, v := range samples() {
		checkBytes(t, v)
		if allowed(v, 11) {
			checkBytes(t, der.Seq(v, v))
			checkBytes(t, der.Set(v))
		}
	}
}

func TestIntegers(t *testing.T) {
	for n, want := range map[int64]string{
		0: "020100", 1: "020101", -1: "0201ff", 127: "02017f", 128: "02020080", -128: "020180", -129: "0202ff7f", 255: "020200ff", 256: "02020100", -256: "0202ff00", -257: "0202feff",
		32767: "02027fff", 32768: "0203008000", -32768: "02028000", -32769: "0203ff7fff", 65535: "020300ffff", 65536: "0203010000",
		8388607: "02037fffff", 8388608: "020400800000", -8388608: "0203800000", -8388609: "0204ff7fffff",
		1<<31 - 1: "02047fffffff", 1 << 31: "02050080000000", -1 << 31: "020480000000", -1<<31 - 1: "0205ff7fffffff",
		1<<39 - 1: "02057fffffffff", 1 << 39: "0206008000000000", -1 << 39: "02058000000000", -1<<39 - 1: "0206ff7fffffffff",
		1<<47 - 1: "02067fffffffffff", 1 << 47: "020700800000000000", -1 << 47: "0206800000000000", -1<<47 - 1: "0207ff7fffffffffff",
		1<<55 - 1: "02077fffffffffffff", 1 << 55: "02080080000000000000", -1 << 55: "020780000000000000", -1<<55 - 1: "0208ff7fffffffffffff",
		math.MaxInt64: "02087fffffffffffffff", math.MinInt64: "02088000000000000000", math.MinInt64 + 1: "02088000000000000001", 1234567890123456789: "0208112210f47de98115",
	} {
		checkText(t, want, der.Int(n))
	}
}

// The hashes are those of all bytes that another program's numbers in twos' complement have.
func TestManyIntegers(t *testing.T) {
	all := sha256.New()
	for n := int64(-70000); n <= 70000; n++ {
		all.Write(bytesOf(t, der.Int(n)))
		if n%7 == 0 {
			checkBytes(t, der.Int(n))
		}
	}
	if got := wire.Hex(all.Sum(nil)); got != "f07e0c1e00c7187ffb749eaa452d62f706d74063a9cc070629011455aa705c5c" {
		t.Errorf("the bytes of -70000 to 70000 have the hash %s", got)
	}
}

// What goes past the least and the greatest number comes round to the other.
func TestIntegersAboutEachPower(t *testing.T) {
	for k := range 64 {
		for beside := int64(-3); beside <= 3; beside++ {
			checkBytes(t, der.Int(int64(1)<<k+beside))
			checkBytes(t, der.Int(int64(-1)<<k+beside))
		}
	}
}

func bytesOf(t *testing.T, v api.Der) []byte {
	t.Helper()
	b, err := der.Bytes(v)
	if err != api.OK {
		t.Errorf("the bytes of %s: %v", told(v), err)
	}
	return b
}

// The bytes are those of another program that keeps to DER.
func TestOids(t *testing.T) {
	most := slices.Repeat([]uint64{1<<31 - 1}, 14)
	for want, arcs := range map[string][]uint64{
		"060100": {0, 0}, "060127": {0, 39}, "060128": {1, 0}, "06014f": {1, 39}, "060150": {2, 0}, "060177": {2, 39}, "060178": {2, 40}, "06017f": {2, 47}, "06028100": {2, 48},
		"0603550403": {2, 5, 4, 3}, "0603551d13": {2, 5, 29, 19}, "06032b6570": {1, 3, 101, 112}, "06092b06010401868d1f01": {1, 3, 6, 1, 4, 1, 99999, 1}, "0603883703": {2, 999, 3},
		"06092a864886f70d01010b": {1, 2, 840, 113549, 1, 1, 11}, "0605888080804f": {2, 1<<31 - 1}, "060a888080804f87ffffff7f": {2, 1<<31 - 1, 1<<31 - 1},
		"061e2a7f8100ff7f818000ffff7f81808000ffffff7f818080800087ffffff7f": {1, 2, 127, 128, 16383, 16384, 2097151, 2097152, 268435455, 268435456, 2147483647},
		"060f27" + strings.Repeat("00", 14):                                append([]uint64{0, 39}, make([]uint64, 14)...),
		"064b888080804f" + strings.Repeat("87ffffff7f", 14):                append([]uint64{2, 1<<31 - 1}, most...),
	} {
		checkText(t, want, der.Oid(arcs...))
	}
}

// Arcs about each power of two; the hash is that of all bytes that such another program answered.
func TestOidsAboutEachPower(t *testing.T) {
	all, count := sha256.New(), 0
	take := func(arcs ...uint64) {
		all.Write(bytesOf(t, der.Oid(arcs...)))
		checkBytes(t, der.Oid(arcs...))
		count++
	}
	for first := range uint64(3) {
		for k := range 32 {
			for beside := range uint64(3) {
				n := 1<<k + beside - 1
				if n >= 1<<31 {
					checkMayNot(t, der.Oid(first, 7, n, 3))
					checkMayNot(t, der.Oid(first, n))
					continue
				}
				if first == 2 || n < 40 {
					take(first, n)
				} else {
					checkMayNot(t, der.Oid(first, n))
				}
				take(first, 7, n, 3)
			}
		}
	}
	if got := wire.Hex(all.Sum(nil)); got != "274117a3daa7b3d236b792131e7a51dfeff685ae5ed734257476e29fac62e4b6" || count != 412 {
		t.Errorf("the bytes of %d Oids have the hash %s", count, got)
	}
}

func TestEachFirstAndSecondArc(t *testing.T) {
	for first := range uint64(5) {
		for second := range uint64(300) {
			for _, more := range [][]uint64{nil, {0}, {1, 128}} {
				v := der.Oid(append([]uint64{first, second}, more...)...)
				if first < 2 && second < 40 || first == 2 {
					checkBytes(t, v)
				} else {
					checkMayNot(t, v)
				}
			}
		}
	}
}

// counted are n bytes that count on from n.
func counted(n int) []byte {
	b := make([]byte, n)
	for i := range b {
		b[i] = byte(n + i)
	}
	return b
}

// The hashes are those of all bytes that another program that keeps to DER answered.
func TestAllLengths(t *testing.T) {
	octets, bits := sha256.New(), sha256.New()
	for n := range 1000 {
		octets.Write(bytesOf(t, der.Octets(counted(n))))
		bits.Write(bytesOf(t, der.Bits(counted(n))))
	}
	for _, n := range []int{64995, 64996} {
		octets.Write(bytesOf(t, der.Octets(counted(n))))
		bits.Write(bytesOf(t, der.Bits(counted(n-1))))
	}
	if got := wire.Hex(octets.Sum(nil)); got != "4ad022500303fb8d29af6086d876342ec8f20187bd8ccd2e817d23b7d3427881" {
		t.Errorf("the bytes of octets of all lengths have the hash %s", got)
	}
	if got := wire.Hex(bits.Sum(nil)); got != "75b33231aa2b545604cf05e960701587520022eae19c96a025e1043d1a3e6a85" {
		t.Errorf("the bytes of bits of all lengths have the hash %s", got)
	}
}

// filled are values whose content has just n bytes, of all kinds that may have so many.
func filled(n int) []api.Der {
	all := []api.Der{der.Octets(some(n)), der.Text(strings.Repeat("t", n))}
	if n > 0 {
		all = append(all, der.Bits(some(n-1)))
	}
	if n == 0 {
		all = append(all, der.Seq())
	}
	for head := 2; head <= 4; head++ { // a kid's tag and length
		kid := der.Octets(some(max(0, n-head)))
		if len(wanted(kid)) == n {
			all = append(all, raw(api.DerSeq, 0, kid), raw(api.DerSet, 0, kid))
			for _, tag := range []int64{0, 1, 15, 30} {
				all = append(all, raw(api.DerTag, tag, kid))
			}
		}
	}
	if n%3 == 0 {
		all = append(all, raw(api.DerSeq, 0, slices.Repeat([]api.Der{boolean(true)}, n/3)...))
	}
	if n%2 == 0 {
		all = append(all, raw(api.DerSeq, 0, slices.Repeat([]api.Der{der.Seq()}, n/2)...))
	}
	return all
}

// Content of no bytes, of 127, 128, 255, 256, and of all other numbers up to some more.
func TestContentOfEachLength(t *testing.T) {
	for n := range 600 {
		for _, v := range filled(n) {
			checkBytes(t, v)
			if got := len(bytesOf(t, v)); got-n != 2 && n <= 127 || got-n != 3 && n > 127 && n <= 255 || got-n != 4 && n > 255 {
				t.Errorf("content of %d bytes has %d with its tag and length", n, got)
			}
		}
	}
	for _, n := range []int{4095, 4096, 32767, 32768, 64994, 64995} {
		for _, v := range filled(n) {
			checkBytes(t, v)
		}
	}
}

// Just MaxDer bytes, and one more, two more, and very many, whatever the kind; alone, and within others.
func TestJustMaxDer(t *testing.T) {
	for _, n := range []int{64995, 64996, 64997, 64998, 65535, 65536, 70000, 1 << 20} {
		for _, v := range filled(n) {
			checkBytes(t, v)
			if b, err := der.Bytes(v); n <= 64996 && (err != api.OK || len(b) != n+4) || n > 64996 && (err != api.ErrLong || b != nil) {
				t.Errorf("content of %d bytes, of kind %d, has %d, %v", n, v.Kind, len(b), err)
			}
			checkNoneAbove(t, wanted(v))
		}
	}
	for _, n := range []int{64991, 64992, 64993, 64994} { // within another one, of which the tag and the length count as well
		for _, v := range filled(n) {
			for _, kind := range []api.DerKind{api.DerSeq, api.DerTag, api.DerSet} {
				checkBytes(t, raw(kind, 0, v))
			}
			checkBytes(t, raw(api.DerSeq, 0, boolean(true), v))
			checkBytes(t, raw(api.DerSeq, 0, v, boolean(true)))
		}
	}
}

func checkNoneAbove(t *testing.T, b []byte) {
	t.Helper()
	if len(b) > 65000 {
		checkNone(t, b)
	}
}

// Many kids that are short, of which none is too long: it is their sum.
func TestManyKids(t *testing.T) {
	for _, n := range []int{0, 1, 2, 3, 63, 64, 127, 128, 1000, 21665, 21666, 32497, 32498, 32499, 100000} {
		for _, kid := range []api.Der{der.Seq(), boolean(false), der.Octets(some(200))} {
			checkBytes(t, raw(api.DerSeq, 0, slices.Repeat([]api.Der{kid}, n)...))
		}
	}
	kids := make([]api.Der, 2000)
	for i := range kids {
		kids[i] = der.Int(int64(i*i*i) - 50000)
	}
	for n := range 300 {
		checkBytes(t, der.Seq(kids[:n]...))
	}
	checkBytes(t, der.Seq(kids...))
}

// A value that may not be is ErrArg, though it is too long, or holds what is: wherever in it.
func TestWhichErrorComesFirst(t *testing.T) {
	long, odd := der.Octets(some(70000)), der.Oid(3, 1)
	for _, v := range []api.Der{
		{Kind: api.DerOctets, Bytes: some(70000), N: 1}, {Kind: api.DerText, Text: strings.Repeat("a", 70000) + "\xff"}, {Kind: api.DerText, Text: "\xff" + strings.Repeat("a", 70000)},
		{Kind: api.DerTime, Text: strings.Repeat("0", 70000) + "Z"}, {Kind: api.DerInt, Bytes: some(70000)}, {Kind: 11, Bytes: some(70000)}, {Bytes: some(70000)},
		{Kind: api.DerOid, Arcs: make([]uint64, 70000)}, raw(api.DerSeq, 0, long, odd), raw(api.DerSeq, 0, odd, long), raw(api.DerSeq, 1, long), raw(api.DerTag, 31, long), raw(api.DerTag, -1, long),
		raw(api.DerTag, 0, long, long), raw(api.DerSet, 0, long, long), raw(api.DerSet, 5, long), raw(api.DerSeq, 0, raw(api.DerSeq, 0, long, raw(api.DerSeq, 0, odd))),
		raw(api.DerSeq, 0, append(slices.Repeat([]api.Der{boolean(true)}, 100000), odd)...), chain(13, long, api.DerSeq), raw(api.DerSeq, 0, long, chain(12, der.Seq(), api.DerTag)),
	} {
		checkMayNot(t, v)
	}
	for _, v := range []api.Der{long, chain(12, long, api.DerSeq), raw(api.DerSeq, 0, long, chain(11, der.Seq(), api.DerTag)), raw(api.DerTag, 30, long), raw(api.DerSet, 0, long)} {
		checkBytes(t, v)
		if b, err := der.Bytes(v); err != api.ErrLong || b != nil {
			t.Errorf("the bytes of %s are %s, %v", told(v), short(b), err)
		}
	}
}

// The library's DER has the same bytes, where it has such values.
func TestBytesAreTheLibrarys(t *testing.T) {
	type pair struct {
		v     api.Der
		given any
	}
	var all []pair
	for _, n := range []int64{0, 1, -1, 127, 128, -128, -129, 1 << 40, math.MaxInt64, math.MinInt64} {
		all = append(all, pair{der.Int(n), n})
	}
	for n := range 300 {
		all = append(all, pair{der.Octets(some(n)), some(n)}, pair{der.Bits(some(n)), asn1.BitString{Bytes: some(n), BitLength: 8 * n}})
	}
	for _, arcs := range [][]uint64{{0, 0}, {1, 39}, {2, 5, 4, 3}, {2, 47}, {2, 48}, {1, 3, 6, 1, 4, 1, 99999, 1}, {2, 1<<31 - 81, 1<<31 - 1}} {
		var oid asn1.ObjectIdentifier
		for _, arc := range arcs {
			oid = append(oid, int(arc))
		}
		all = append(all, pair{der.Oid(arcs...), oid})
	}
	for _, flag := range []bool{true, false} {
		all = append(all, pair{boolean(flag), flag})
	}
	for _, x := range all {
		want, err := asn1.Marshal(x.given)
		if got := bytesOf(t, x.v); err != nil || string(got) != string(want) {
			t.Errorf("the bytes of %s are %s, the library's %s, %v", told(x.v), short(got), short(want), err)
		}
	}
}
