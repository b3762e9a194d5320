package der_test

import (
	"bytes"
	"math/rand"
	"slices"
	"strings"
	"sync"
	"testing"

	"escutcheon/api"
	"escutcheon/der"
)

// copyOf is a value that shares nothing with v.
func copyOf(v api.Der) api.Der {
	v.Bytes, v.Arcs, v.Kids = bytes.Clone(v.Bytes), slices.Clone(v.Arcs), slices.Clone(v.Kids)
	for i := range v.Kids {
		v.Kids[i] = copyOf(v.Kids[i])
	}
	return v
}

// spoil changes all that a value has in its lists, with what has room behind them.
func spoil(v *api.Der) {
	v.Bytes, v.Arcs, v.Kids = v.Bytes[:cap(v.Bytes)], v.Arcs[:cap(v.Arcs)], v.Kids[:cap(v.Kids)]
	for i := range v.Bytes {
		v.Bytes[i] ^= 255
	}
	for i := range v.Arcs {
		v.Arcs[i] += 3
	}
	for i := range v.Kids {
		spoil(&v.Kids[i])
		v.Kids[i].Kind, v.Kids[i].N = 77, v.Kids[i].N+1
	}
}

// roomy is a value that has room behind each of its lists, with something in it.
func roomy(v api.Der) api.Der {
	v.Bytes = append(bytes.Clone(v.Bytes), some(20)...)[:len(v.Bytes)]
	v.Arcs = append(slices.Clone(v.Arcs), 5, 6, 7)[:len(v.Arcs)]
	kids := append(slices.Clone(v.Kids), der.Int(5), der.Octets(some(3)))
	for i := range v.Kids {
		kids[i] = roomy(kids[i])
	}
	v.Kids = kids[:len(v.Kids)]
	return v
}

// whole shows what has room, too.
func whole(v api.Der) api.Der {
	v = copyOf(api.Der{Kind: v.Kind, Flag: v.Flag, N: v.N, Text: v.Text, Bytes: v.Bytes[:cap(v.Bytes)], Arcs: v.Arcs[:cap(v.Arcs)], Kids: v.Kids[:cap(v.Kids)]})
	for i := range v.Kids {
		v.Kids[i] = whole(v.Kids[i])
	}
	return v
}

// What is handed in stays as it was, with what has room behind it.
func TestArgumentsStay(t *testing.T) {
	for _, v := range append(samples(), unlike()...) {
		given := roomy(v)
		want := whole(given)
		der.Bytes(given)
		der.May(given)
		der.Same(given, v)
		der.Same(v, given)
		der.Seq(given, given)
		der.Tag(3, given)
		der.Set(given)
		der.Seq(given.Kids...)
		der.Oid(given.Arcs...)
		der.Octets(given.Bytes)
		der.Bits(given.Bytes)
		if !alike(whole(given), want) {
			t.Errorf("%s was changed", told(v))
		}
		if err := bytesStay(given.Bytes); err != "" {
			t.Error(err)
		}
	}
}

func bytesStay(b []byte) string {
	room := append(bytes.Clone(b), some(30)...)
	before := bytes.Clone(room)
	der.Of(room[:len(b)])
	der.Of(room)
	der.Octets(room[:len(b)])
	der.Bits(room[:len(b)])
	if !bytes.Equal(room, before) {
		return "bytes, or what is behind them, were changed"
	}
	return ""
}

func TestBytesThatAreHandedInStay(t *testing.T) {
	for _, v := range samples() {
		b := bytesOf(t, v)
		if err := bytesStay(b); err != "" {
			t.Error(err)
		}
		if err := bytesStay(b[:len(b)-1]); err != "" {
			t.Error(err)
		}
	}
}

// What is answered shares nothing with what was handed in, whichever of them is changed.
func TestAnswersShareNothingWithArguments(t *testing.T) {
	for _, v := range append(samples(), unlike()...) {
		for _, ask := range []func(v api.Der) api.Der{
			func(v api.Der) api.Der { return der.Seq(v) }, func(v api.Der) api.Der { return der.Set(v) }, func(v api.Der) api.Der { return der.Tag(1, v) }, func(v api.Der) api.Der { return der.Seq(v, v) },
			func(v api.Der) api.Der { return der.Seq(v.Kids...) }, func(v api.Der) api.Der { return der.Oid(v.Arcs...) }, func(v api.Der) api.Der { return der.Octets(v.Bytes) }, func(v api.Der) api.Der { return der.Bits(v.Bytes) },
			func(v api.Der) api.Der {
				b, _ := der.Bytes(v)
				return der.Octets(b)
			},
		} {
			given := roomy(v)
			before, answer := whole(given), ask(given)
			want := copyOf(answer)
			spoil(&given)
			if !alike(answer, want) {
				t.Errorf("an answer hangs on what becomes of %s", told(v))
			}
			given = roomy(v)
			answer = ask(given)
			spoil(&answer)
			if !alike(whole(given), before) {
				t.Errorf("%s hangs on what becomes of an answer", told(v))
			}
		}
	}
}

// A list that is handed on whole is not the answer's list.
func TestAListOfKidsStays(t *testing.T) {
	kids := samples()
	before := copyOf(raw(api.DerSeq, 0, kids...))
	v := der.Seq(kids...)
	spoil(&v)
	if !alike(raw(api.DerSeq, 0, kids...), before) {
		t.Error("the list of kids hangs on the answer")
	}
	arcs := []uint64{1, 2, 3}
	v = der.Oid(arcs...)
	v.Arcs[1] = 9
	if !slices.Equal(arcs, []uint64{1, 2, 3}) {
		t.Error("the list of arcs hangs on the answer")
	}
}

func TestBytesShareNothing(t *testing.T) {
	for _, v := range samples() {
		given := copyOf(v)
		b, again := bytesOf(t, given), bytesOf(t, given)
		want := wanted(v)
		clear(again[:cap(again)])
		spoil(&given)
		if !bytes.Equal(b, want) {
			t.Errorf("the bytes of %s hang on what becomes of it, or of other ones", told(v))
		}
		given = copyOf(v)
		b = bytesOf(t, given)
		clear(b[:cap(b)])
		if !alike(given, v) || !bytes.Equal(bytesOf(t, given), want) {
			t.Errorf("%s hangs on what becomes of its bytes", told(v))
		}
	}
}

func TestOfSharesNothing(t *testing.T) {
	for _, want := range samples() {
		b := wanted(want)
		v, _ := der.Of(b)
		again, _ := der.Of(b)
		spoil(&again)
		if !bytes.Equal(b, wanted(want)) {
			t.Errorf("the bytes hang on what becomes of %s", told(want))
		}
		clear(b)
		if !alike(v, want) {
			t.Errorf("%s hangs on what becomes of its bytes, or of another answer", told(want))
		}
	}
}

// No two lists of an answer are one, nor have room that is another's.
func TestListsOfAnAnswerShareNothing(t *testing.T) {
	shared := roomy(der.Seq(der.Octets(some(5)), der.Oid(1, 2, 3), der.Seq(der.Bits(some(4)), der.Seq())))
	b := wanted(raw(api.DerSeq, 0, shared, shared, shared))
	read, _ := der.Of(b)
	for what, v := range map[string]api.Der{
		"Seq":                  der.Seq(shared, shared, shared),
		"Seq of a list's kids": der.Seq(der.Seq(shared, shared), shared),
		"Tag":                  der.Tag(3, raw(api.DerSeq, 0, shared, shared)),
		"Set":                  der.Set(raw(api.DerSeq, 0, shared, shared)),
		"Of":                   read,
	} {
		want := copyOf(v)
		putBehind(v)
		if !alike(v, want) {
			t.Errorf("%s: what is put behind a list is in another one", what)
		}
		for len(v.Kids) == 1 {
			v = v.Kids[0]
		}
		others := copyOf(raw(api.DerSeq, 0, v.Kids[1:]...))
		spoil(&v.Kids[0])
		if !alike(raw(api.DerSeq, 0, v.Kids[1:]...), others) {
			t.Errorf("%s: what is in the first kid is in another one", what)
		}
	}
}

// putBehind puts something behind each list within a value, where there is room.
func putBehind(v api.Der) {
	_, _, _ = append(v.Bytes, 99), append(v.Arcs, 99), append(v.Kids, api.Der{Kind: 99})
	for _, kid := range v.Kids {
		putBehind(kid)
	}
}

// An error goes with no bytes, and with a zero value.
func TestErrorsGoAlone(t *testing.T) {
	for _, v := range []api.Der{{}, {Kind: 11}, der.Oid(9), der.Octets(some(70000)), der.Seq(der.Octets(some(65000)), der.Oid(9)), der.Tag(31, der.Seq()), der.Text("\xff")} {
		if b, err := der.Bytes(v); err == api.OK || b != nil {
			t.Errorf("the bytes of %s are %s, %v", told(v), short(b), err)
		}
	}
	for _, b := range [][]byte{nil, {}, {4}, {4, 1}, {4, 0, 0}, ofHex(t, "3003020101 00"), ofHex(t, "30050201010101"), make([]byte, 70000), ofHex(t, "0202007f"), ofHex(t, "0404010203"), ofHex(t, "300604020102 0500"), ofHex(t, "a003 0c01ff"), ofHex(t, "0603558001")} {
		if v, err := der.Of(b); err != api.ErrBytes || v.Kind != 0 || v.Flag || v.N != 0 || v.Bytes != nil || v.Text != "" || v.Arcs != nil || v.Kids != nil {
			t.Errorf("%s are %s, %v", short(b), told(v), err)
		}
	}
}

// What Of answers has nothing in the fields that its kind does not name.
func TestOfLeavesTheOtherFieldsZero(t *testing.T) {
	for _, want := range samples() {
		v, _ := der.Of(wanted(want))
		if strings.Trim(holds(v), named[v.Kind]) != "" || !allowed(v, 12) {
			t.Errorf("%s has fields that its kind does not name", told(v))
		}
	}
}

// Values may be very deep: only those that may be are not.
func TestVeryDeepValues(t *testing.T) {
	const deep = 300000
	one, two := chain(deep, der.Int(1), api.DerSeq, api.DerTag), chain(deep, der.Int(1), api.DerSeq, api.DerTag)
	other := chain(deep, der.Int(2), api.DerSeq, api.DerTag)
	if der.May(one) || !der.Same(one, two) || der.Same(one, other) {
		t.Error("values that are very deep may be, or are others")
	}
	if b, err := der.Bytes(one); err != api.ErrArg || b != nil {
		t.Error("the bytes of a value that is very deep:", err)
	}
	copied := der.Seq(one)
	if !der.Same(copied, raw(api.DerSeq, 0, two)) || der.Same(copied, raw(api.DerSeq, 0, other)) {
		t.Error("a value that is very deep is another one within a sequence")
	}
	one.Kids[0].Kids[0].N++
	if !der.Same(copied, raw(api.DerSeq, 0, two)) {
		t.Error("a value that is very deep is shared")
	}
}

// itself is a value that holds itself: in its own list of kids, or in one further down.
func itself(kind api.DerKind, n, lists int) api.Der {
	all := make([][]api.Der, lists)
	for i := range all {
		all[i] = make([]api.Der, n)
	}
	for i := range all {
		for j := range all[i] {
			all[i][j] = raw(kind, int64(j), all[(i+1)%lists]...)
		}
	}
	return all[0][0]
}

func TestValuesThatHoldThemselves(t *testing.T) {
	for _, kind := range []api.DerKind{api.DerSeq, api.DerTag, api.DerSet, api.DerInt, 0, 11} {
		for _, n := range []int{1, 2, 3} {
			for _, lists := range []int{1, 2, 3} {
				v, same := itself(kind, n, lists), itself(kind, n, lists)
				checkMayNot(t, v)
				if !der.Same(v, v) || !der.Same(v, same) || der.Same(v, itself(kind, n+1, lists)) {
					t.Errorf("of kind %d, %d kids and %d lists: a value that holds itself is another one", kind, n, lists)
				}
				for what, answer := range map[string]api.Der{"Seq": der.Seq(v), "Tag": der.Tag(2, v), "Set": der.Set(v)} {
					checkMayNot(t, answer)
					if !der.Same(answer, raw(answer.Kind, answer.N, same)) {
						t.Errorf("%s of kind %d, %d kids and %d lists: a value that holds itself is another one", what, kind, n, lists)
					}
				}
				copied := der.Seq(v)
				v.Kids[0].Flag = true
				if !der.Same(copied, raw(api.DerSeq, 0, same)) {
					t.Errorf("of kind %d, %d kids and %d lists: a value that holds itself is shared", kind, n, lists)
				}
			}
		}
	}
}

// One list may be in so many places that none of them could be gone through one by one.
func TestAListInVeryManyPlaces(t *testing.T) {
	wide := func(last api.Der) api.Der {
		for range 11 {
			last = raw(api.DerSeq, 0, slices.Repeat([]api.Der{last}, 50)...)
		}
		return last
	}
	v := wide(der.Int(1))
	if b, err := der.Bytes(v); !der.May(v) || err != api.ErrLong || b != nil {
		t.Error("a list in very many places:", der.May(v), err)
	}
	if !der.Same(v, wide(der.Int(1))) || der.Same(v, wide(der.Int(2))) {
		t.Error("a list in very many places is another one")
	}
	checkMayNot(t, wide(der.Oid(9)))
	checkMayNot(t, wide(der.Seq(der.Int(1))))
}

// No call keeps anything for the next one.
func TestCallsInAnyOrder(t *testing.T) {
	x := rand.New(rand.NewSource(7))
	all := samples()
	for range 3000 {
		i, j := x.Intn(len(all)), x.Intn(len(all))
		checkBytes(t, all[i])
		checkSame(t, all[i], all[j], i == j)
		checkValue(t, der.Seq(all[i], all[j]), raw(api.DerSeq, 0, all[i], all[j]))
	}
}

func TestManyAtATime(t *testing.T) {
	all := samples()
	var workers sync.WaitGroup
	for worker := range 8 {
		workers.Go(func() {
			for i := range 4 * len(all) {
				v := all[(i+5*worker)%len(all)]
				b, err := der.Bytes(v)
				again, errOf := der.Of(b)
				if err != api.OK || errOf != api.OK || !bytes.Equal(b, wanted(v)) || !der.Same(again, v) || !der.Same(der.Set(v), raw(api.DerSet, 0, again)) {
					t.Errorf("what is asked of many goroutines has other answers: %s", told(v))
				}
			}
		})
	}
	workers.Wait()
}

// TestNoCallPanics gives all calls odd arguments: a panic ends the test.
func TestNoCallPanics(t *testing.T) {
	x := rand.New(rand.NewSource(8))
	for range 30000 {
		v, w := anything(x, 4, 400), anything(x, 4, 400)
		der.Same(v, w)
		der.Bytes(der.Seq(v, w))
		der.Bytes(der.Tag(x.Intn(100)-50, v))
		der.Bytes(der.Set(v))
		b := make([]byte, x.Intn(40))
		x.Read(b)
		for i := range b {
			if x.Intn(2) == 0 {
				b[i] = []byte{0x30, 0x31, 0xa0, 0x80, 0x81, 0x82, 0x84, 0x88, 2, 3, 4, 6, 0, 1, 255, 127}[x.Intn(16)]
			}
		}
		checkAny(t, b)
	}
}
