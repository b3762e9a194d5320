package der_test

import (
	"fmt"
	"math/big"
	"math/rand"
	"slices"
	"strings"
	"testing"
	"unicode/utf8"

	"escutcheon/api"
	"escutcheon/der"
	"escutcheon/wire"
)

// kinds are all kinds that there are.
var kinds = []api.DerKind{api.DerBool, api.DerInt, api.DerBits, api.DerOctets, api.DerOid, api.DerText, api.DerSeq, api.DerTag, api.DerSet, api.DerTime}

// named tells which fields a kind names: Flag, N, Bytes, Text, Arcs, Kids, by their first letters.
var named = map[api.DerKind]string{
	api.DerBool: "F", api.DerInt: "N", api.DerBits: "B", api.DerOctets: "B", api.DerOid: "A", api.DerText: "T",
	api.DerSeq: "K", api.DerTag: "NK", api.DerSet: "K", api.DerTime: "T",
}

// holds tells which fields of a value are not zero.
func holds(v api.Der) string {
	var all string
	for _, x := range []struct {
		field string
		is    bool
	}{{"F", v.Flag}, {"N", v.N != 0}, {"B", len(v.Bytes) > 0}, {"T", v.Text != ""}, {"A", len(v.Arcs) > 0}, {"K", len(v.Kids) > 0}} {
		if x.is {
			all += x.field
		}
	}
	return all
}

// allowed says whether a value may be, as the chapter tells it: at most so many values deep.
func allowed(v api.Der, deep int) bool {
	names, is := named[v.Kind]
	if !is || deep == 0 || strings.Trim(holds(v), names) != "" {
		return false
	}
	for _, kid := range v.Kids {
		if !allowed(kid, deep-1) {
			return false
		}
	}
	switch v.Kind {
	case api.DerOid:
		return oidAllowed(v.Arcs)
	case api.DerText:
		return utf8.ValidString(v.Text)
	case api.DerTag:
		return v.N >= 0 && v.N <= 30 && len(v.Kids) == 1
	case api.DerSet:
		return len(v.Kids) == 1
	case api.DerTime:
		return len(v.Text) == 15 && strings.Trim(v.Text[:14], "0123456789") == "" && v.Text[14:] == "Z"
	}
	return true
}

func oidAllowed(arcs []uint64) bool {
	for _, arc := range arcs {
		if arc > 2147483647 {
			return false
		}
	}
	return len(arcs) >= 2 && len(arcs) <= 16 && arcs[0] <= 2 && (arcs[0] == 2 || arcs[1] < 40)
}

// wanted is a value's bytes as the chapter tells them, however many they are.
func wanted(v api.Der) []byte {
	switch v.Kind {
	case api.DerBool:
		if v.Flag {
			return within(0x01, []byte{255})
		}
		return within(0x01, []byte{0})
	case api.DerInt:
		return within(0x02, complement(v.N))
	case api.DerBits:
		return within(0x03, slices.Concat([]byte{0}, v.Bytes))
	case api.DerOctets:
		return within(0x04, v.Bytes)
	case api.DerOid:
		all := sevens(40*v.Arcs[0] + v.Arcs[1])
		for _, arc := range v.Arcs[2:] {
			all = append(all, sevens(arc)...)
		}
		return within(0x06, all)
	case api.DerText:
		return within(0x0c, []byte(v.Text))
	case api.DerTime:
		return within(0x18, []byte(v.Text))
	}
	var all []byte
	for _, kid := range v.Kids {
		all = append(all, wanted(kid)...)
	}
	switch v.Kind {
	case api.DerTag:
		return within(byte(160+v.N), all)
	case api.DerSet:
		return within(0x31, all)
	}
	return within(0x30, all)
}

// within is a tag, how many bytes the content has, and the content.
func within(tag byte, content []byte) []byte {
	n := len(content)
	switch {
	case n <= 127:
		return slices.Concat([]byte{tag, byte(n)}, content)
	case n <= 255:
		return slices.Concat([]byte{tag, 0x81, byte(n)}, content)
	case n <= 65535:
		return slices.Concat([]byte{tag, 0x82, byte(n / 256), byte(n % 256)}, content)
	}
	return slices.Concat([]byte{tag, 0x83, byte(n / 65536), byte(n / 256), byte(n)}, content)
}

// complement is a number in twos' complement: of k bytes, where k is the least with which -2^(8k-1) <= n < 2^(8k-1).
func complement(n int64) []byte {
	x := big.NewInt(n)
	for k := uint(1); ; k++ {
		half := new(big.Int).Lsh(big.NewInt(1), 8*k-1)
		if x.Cmp(half) < 0 && x.Cmp(new(big.Int).Neg(half)) >= 0 {
			if x.Sign() < 0 {
				x.Add(x, half.Lsh(half, 1))
			}
			return x.FillBytes(make([]byte, k))
		}
	}
}

// sevens is a number in digits of base 128, each but the last one with 128 added.
func sevens(n uint64) []byte {
	last := byte(n % 128)
	var ahead []byte
	for n /= 128; n > 0; n /= 128 {
		ahead = append(ahead, byte(128+n%128))
	}
	slices.Reverse(ahead)
	return append(ahead, last)
}

// taken is the value that bytes are, if they are one's: it goes over them once, and refuses what is not as few bytes as can be where it stands.
func taken(b []byte) (api.Der, bool) {
	if len(b) > 65000 {
		return api.Der{}, false
	}
	v, rest, ok := takenFrom(b, 12)
	return v, ok && len(rest) == 0
}

func takenFrom(b []byte, deep int) (v api.Der, rest []byte, ok bool) {
	tag, content, rest, ok := cut(b)
	if !ok || deep == 0 {
		return v, nil, false
	}
	switch {
	case tag == 1 && len(content) == 1 && (content[0] == 0 || content[0] == 255):
		return api.Der{Kind: api.DerBool, Flag: content[0] == 255}, rest, true
	case tag == 2:
		v, ok = takenInt(content)
		return v, rest, ok
	case tag == 3 && len(content) > 0 && content[0] == 0:
		return api.Der{Kind: api.DerBits, Bytes: content[1:]}, rest, true
	case tag == 4:
		return api.Der{Kind: api.DerOctets, Bytes: content}, rest, true
	case tag == 6:
		v, ok = takenOid(content)
		return v, rest, ok
	case tag == 12 && utf8.Valid(content):
		return api.Der{Kind: api.DerText, Text: string(content)}, rest, true
	case tag == 24:
		v = api.Der{Kind: api.DerTime, Text: string(content)}
		return v, rest, allowed(v, 1)
	case tag == 48 || tag == 49 || tag >= 160 && tag <= 190:
		v, ok = takenKids(tag, content, deep)
		return v, rest, ok
	}
	return v, nil, false
}

func cut(b []byte) (tag byte, content, rest []byte, ok bool) {
	if len(b) < 2 {
		return 0, nil, nil, false
	}
	tag, n, b := b[0], int(b[1]), b[2:]
	switch {
	case n == 0x81 && len(b) >= 1 && b[0] >= 128:
		n, b = int(b[0]), b[1:]
	case n == 0x82 && len(b) >= 2 && b[0] >= 1:
		n, b = 256*int(b[0])+int(b[1]), b[2:]
	case n >= 128:
		return 0, nil, nil, false
	}
	if n > len(b) {
		return 0, nil, nil, false
	}
	return tag, b[:n], b[n:], true
}

func takenInt(content []byte) (api.Der, bool) {
	if len(content) < 1 || len(content) > 8 {
		return api.Der{}, false
	}
	x := new(big.Int).SetBytes(content)
	if content[0] >= 128 {
		x.Sub(x, new(big.Int).Lsh(big.NewInt(1), uint(8*len(content))))
	}
	return der.Int(x.Int64()), slices.Equal(complement(x.Int64()), content)
}

func takenOid(content []byte) (api.Der, bool) {
	var arcs []uint64
	for len(content) > 0 {
		n := new(big.Int)
		end := slices.IndexFunc(content, func(x byte) bool { return x < 128 })
		if end < 0 || content[0] == 128 {
			return api.Der{}, false
		}
		for _, x := range content[:end+1] {
			n.Add(n.Lsh(n, 7), big.NewInt(int64(x%128)))
		}
		content = content[end+1:]
		if !n.IsUint64() {
			return api.Der{}, false
		}
		if len(arcs) == 0 {
			first := min(n.Uint64()/40, 2)
			arcs = []uint64{first, n.Uint64() - 40*first}
		} else {
			arcs = append(arcs, n.Uint64())
		}
	}
	return der.Oid(arcs...), oidAllowed(arcs)
}

func takenKids(tag byte, content []byte, deep int) (api.Der, bool) {
	v := api.Der{Kind: api.DerSeq}
	for len(content) > 0 {
		kid, rest, ok := takenFrom(content, deep-1)
		if !ok {
			return api.Der{}, false
		}
		v.Kids, content = append(v.Kids, kid), rest
	}
	switch {
	case tag == 49:
		v.Kind = api.DerSet
	case tag >= 160:
		v.Kind, v.N = api.DerTag, int64(tag-160)
	}
	return v, v.Kind == api.DerSeq || len(v.Kids) == 1
}

// alike holds values against each other field by field.
func alike(a, b api.Der) bool {
	return a.Kind == b.Kind && a.Flag == b.Flag && a.N == b.N && a.Text == b.Text && string(a.Bytes) == string(b.Bytes) &&
		slices.Equal(a.Arcs, b.Arcs) && slices.EqualFunc(a.Kids, b.Kids, alike)
}

// some are n bytes of any kind, the same each time.
func some(n int) []byte {
	b := make([]byte, n)
	for i := range b {
		b[i] = byte(i*i/7 + 13*i + n)
	}
	return b
}

func boolean(flag bool) api.Der { return api.Der{Kind: api.DerBool, Flag: flag} }

func at(text string) api.Der { return api.Der{Kind: api.DerTime, Text: text} }

// raw is a list of values of a kind, whatever may be: no call of der puts it together.
func raw(kind api.DerKind, n int64, kids ...api.Der) api.Der {
	return api.Der{Kind: kind, N: n, Kids: kids}
}

// chain is so many values one within the other, of these kinds in turn; the last one is v.
func chain(deep int, v api.Der, turn ...api.DerKind) api.Der {
	for i := range deep - 1 {
		v = raw(turn[i%len(turn)], 0, v)
	}
	return v
}

// samples are values that may be, of all kinds, one a kind at the least, also within others.
func samples() []api.Der {
	all := []api.Der{
		boolean(false), boolean(true), der.Int(0), der.Int(1), der.Int(-1), der.Int(127), der.Int(128), der.Int(-128), der.Int(-129),
		der.Int(1<<62 + 12345), der.Int(1<<63 - 1), der.Int(-1 << 63), der.Bits(nil), der.Bits([]byte{0}), der.Bits(some(32)), der.Octets(nil), der.Octets([]byte{255}),
		der.Octets(some(130)), der.Oid(0, 0), der.Oid(1, 39, 1), der.Oid(2, 5, 4, 3), der.Oid(1, 3, 101, 112), der.Oid(1, 3, 6, 1, 4, 1, 99999, 1), der.Oid(2, 1<<31-1, 1<<31-1, 128),
		der.Text(""), der.Text("escutcheon"), der.Text("\u00e9 \u4e16 \U0001f511\x00"), at("20000101000000Z"), at("99991231235959Z"), at("00000000000000Z"),
		der.Seq(), der.Seq(der.Int(7)), der.Seq(der.Seq(), der.Seq(der.Seq())), der.Tag(0, der.Int(2)), der.Tag(30, der.Seq()), der.Set(der.Text("a")),
		der.Seq(der.Oid(1, 3, 101, 112), der.Bits(some(32)), boolean(true), at("20261120120000Z"), der.Set(der.Seq(der.Oid(2, 5, 4, 3), der.Text("x"))), der.Tag(3, der.Seq(der.Octets(some(3))))),
		chain(12, der.Int(5), api.DerSeq), chain(12, der.Seq(), api.DerTag, api.DerSet),
	}
	return append(all, der.Seq(all[:20]...), der.Seq(slices.Repeat([]api.Der{der.Int(300)}, 70)...))
}

// anything is a value of any kind, that may be or not: odd tells how often something in it is odd.
func anything(x *rand.Rand, deep, odd int) api.Der {
	v := api.Der{Kind: kinds[x.Intn(len(kinds))]}
	b := make([]byte, x.Intn(6))
	x.Read(b)
	for _, field := range named[v.Kind] {
		fill(x, &v, field, b, deep, odd)
	}
	if x.Intn(1000) < odd {
		fill(x, &v, rune("FNBTAK"[x.Intn(6)]), b, deep, odd)
	}
	if x.Intn(1000) < odd {
		v.Kind = api.DerKind(x.Intn(14) - 1)
	}
	return v
}

func fill(x *rand.Rand, v *api.Der, field rune, b []byte, deep, odd int) {
	switch field {
	case 'F':
		v.Flag = x.Intn(2) == 0
	case 'N':
		v.N = int64(x.Uint64()) >> x.Intn(64)
		if v.Kind == api.DerTag && x.Intn(1000) >= odd {
			v.N = int64(x.Intn(31))
		}
	case 'B':
		v.Bytes = b
	case 'T':
		v.Text = wire.Hex(b)
		if v.Kind == api.DerTime {
			v.Text = "20261120120000Z"
		}
		if x.Intn(1000) < odd {
			v.Text = string(b)
		}
	case 'A':
		v.Arcs = []uint64{uint64(x.Intn(3)), uint64(x.Intn(40))}
		for range x.Intn(15) {
			v.Arcs = append(v.Arcs, x.Uint64()>>(33+x.Intn(31)))
		}
		if x.Intn(1000) < odd {
			v.Arcs[x.Intn(len(v.Arcs))] = x.Uint64() >> x.Intn(64)
		}
	case 'K':
		n := x.Intn(4)
		if v.Kind != api.DerSeq && x.Intn(1000) >= odd {
			n = 1
		}
		for range n {
			if deep > 1 || v.Kind != api.DerSeq {
				v.Kids = append(v.Kids, anything(x, deep-1, odd))
			}
		}
	}
}

func checkBytes(t *testing.T, v api.Der) {
	t.Helper()
	want, err := wanted(v), api.OK
	if len(want) > 65000 {
		want, err = nil, api.ErrLong
	}
	b, got := der.Bytes(v)
	if got != err || string(b) != string(want) {
		t.Errorf("the bytes of %s are %s, %v, not %s, %v", told(v), short(b), got, short(want), err)
	}
	if !der.May(v) {
		t.Errorf("%s may not be", told(v))
	}
	if err == api.OK {
		checkOf(t, want, v)
	}
}

func checkOf(t *testing.T, b []byte, want api.Der) {
	t.Helper()
	v, err := der.Of(b)
	if err != api.OK || !alike(v, want) {
		t.Errorf("%s are %s, %v, not %s", short(b), told(v), err, told(want))
	}
}

// checkMayNot asks for what is answered of a value that may not be.
func checkMayNot(t *testing.T, v api.Der) {
	t.Helper()
	if der.May(v) {
		t.Errorf("%s may be", told(v))
	}
	if b, err := der.Bytes(v); err != api.ErrArg || len(b) != 0 {
		t.Errorf("the bytes of %s are %s, %v", told(v), short(b), err)
	}
}

func checkNone(t *testing.T, b []byte) {
	t.Helper()
	if v, err := der.Of(b); err != api.ErrBytes || !alike(v, api.Der{}) {
		t.Errorf("%s are %s, %v", short(b), told(v), err)
	}
}

func checkText(t *testing.T, hex string, v api.Der) {
	t.Helper()
	b, err := der.Bytes(v)
	if err != api.OK || wire.Hex(b) != hex {
		t.Errorf("the bytes of %s are %s, %v, not %s", told(v), wire.Hex(b), err, hex)
	}
	checkBytes(t, v)
}

func ofHex(t *testing.T, text string) []byte {
	t.Helper()
	b, err := wire.OfHex(strings.ReplaceAll(text, " ", ""))
	if err != api.OK {
		t.Fatal(text, err)
	}
	return b
}

// told is a value for a test's message; cut short, as values may be long, or within themselves.
func told(v api.Der) string {
	return toldDown(v, 4)
}

func toldDown(v api.Der, deep int) string {
	if deep == 0 {
		return ".."
	}
	text := fmt.Sprintf("(%d %v %d %.40x %.40q %v", v.Kind, v.Flag, v.N, v.Bytes, v.Text, v.Arcs)
	for i, kid := range v.Kids {
		if i == 3 {
			text += fmt.Sprintf(" and %d more", len(v.Kids)-i)
			break
		}
		text += " " + toldDown(kid, deep-1)
	}
	return text + ")"
}

func short(b []byte) string {
	if len(b) > 60 {
		return fmt.Sprintf("%x .. (%d bytes)", b[:60], len(b))
	}
	return fmt.Sprintf("%x", b)
}
