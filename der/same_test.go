package der_test

import (
	"math"
	"math/rand"
	"slices"
	"testing"

	"escutcheon/api"
	"escutcheon/der"
)

func checkSame(t *testing.T, a, b api.Der, want bool) {
	t.Helper()
	if der.Same(a, b) != want || der.Same(b, a) != want {
		t.Errorf("%s and %s are the same: %v, %v", told(a), told(b), der.Same(a, b), der.Same(b, a))
	}
	if !der.Same(a, a) || !der.Same(b, b) {
		t.Errorf("%s or %s is not the same as itself", told(a), told(b))
	}
}

// unlike are values that differ in each field, by a little; many of them may not be.
func unlike() []api.Der {
	all := []api.Der{{}, {Flag: true}, {N: 1}, {N: -1}, {N: 1 << 32}, {N: math.MinInt64}, {N: math.MaxInt64}, {Kind: -1}, {Kind: 11}, {Kind: 1 << 32}, {Kind: 256}}
	for _, b := range [][]byte{{0}, {1}, {0, 0}, {0, 1}, {1, 0}, {255}, some(100), some(101), append(some(100), 0)} {
		all = append(all, api.Der{Bytes: b}, der.Octets(b), der.Bits(b), api.Der{Text: string(b)}, der.Text(string(b)), at(string(b)))
	}
	for _, arcs := range [][]uint64{{0}, {1}, {0, 0}, {0, 1}, {1, 0}, {1 << 32, 0}, {2, 5, 4, 3}, {2, 5, 4}, {2, 5, 3, 4}, {2, 5, 4, math.MaxUint64}} {
		all = append(all, api.Der{Arcs: arcs}, der.Oid(arcs...))
	}
	for _, kids := range [][]api.Der{{{}}, {{}, {}}, {der.Int(1)}, {der.Int(2)}, {der.Int(1), der.Int(2)}, {der.Int(2), der.Int(1)}, {der.Int(1), der.Int(1)}, {der.Seq()}, {der.Seq(), der.Seq()}, {der.Seq(der.Seq())}, {der.Octets(nil)}, {der.Bits(nil)}} {
		for _, kind := range []api.DerKind{0, api.DerInt, api.DerSeq, api.DerTag, api.DerSet} {
			all = append(all, raw(kind, 0, kids...), raw(kind, 3, kids...))
		}
	}
	for _, kind := range kinds {
		all = append(all, api.Der{Kind: kind}, api.Der{Kind: kind, Flag: true}, api.Der{Kind: kind, N: 5})
	}
	for deep := 2; deep <= 30; deep++ {
		all = append(all, chain(deep, der.Text("deep"), api.DerSeq), chain(deep, der.Text("deeq"), api.DerSeq), chain(deep, der.Text("deep"), api.DerTag))
	}
	return all
}

func TestSameIsOfAllFields(t *testing.T) {
	for i, a := range unlike() {
		for j, b := range unlike() {
			checkSame(t, a, b, i == j)
			checkSame(t, raw(api.DerSeq, 0, a, der.Int(1)), raw(api.DerSeq, 0, b, der.Int(1)), i == j)
		}
	}
}

// Values are the same or not, whether they may be or not.
func TestSameOfSamples(t *testing.T) {
	for i, a := range samples() {
		for j, b := range samples() {
			checkSame(t, a, b, i == j)
		}
	}
	for i := range samples() {
		v := samples()[i]
		for _, change := range []func(v *api.Der){
			func(v *api.Der) { v.Kind++ }, func(v *api.Der) { v.Flag = !v.Flag }, func(v *api.Der) { v.N++ }, func(v *api.Der) { v.Text += "a" }, func(v *api.Der) { v.Bytes = append(v.Bytes, 0) },
			func(v *api.Der) { v.Arcs = append(v.Arcs, 0) }, func(v *api.Der) { v.Kids = append(v.Kids, api.Der{}) },
		} {
			other := samples()[i]
			change(&other)
			checkSame(t, v, other, false)
			within := raw(api.DerSeq, 0, der.Seq(), v)
			checkSame(t, within, raw(api.DerSeq, 0, der.Seq(), other), false)
			checkSame(t, within, raw(api.DerSeq, 0, der.Seq(), samples()[i]), true)
		}
	}
}

func TestNilAndEmptyListsAreTheSame(t *testing.T) {
	empty := api.Der{Bytes: []byte{}, Arcs: []uint64{}, Kids: []api.Der{}}
	room := api.Der{Bytes: some(4)[:0], Arcs: []uint64{1, 2}[:0], Kids: samples()[:0]}
	for _, kind := range append([]api.DerKind{0, 11}, kinds...) {
		a := api.Der{Kind: kind}
		empty.Kind, room.Kind = kind, kind
		checkSame(t, a, empty, true)
		checkSame(t, a, room, true)
		checkSame(t, room, empty, true)
		checkSame(t, raw(api.DerSeq, 0, a, room, empty), raw(api.DerSeq, 0, room, empty, a), true)
	}
	checkSame(t, der.Octets(nil), der.Octets([]byte{}), true)
	checkSame(t, der.Seq(), der.Seq([]api.Der{}...), true)
	checkSame(t, der.Oid(), der.Oid([]uint64{}...), true)
}

// Where one of the values is cut short, or is within the other.
func TestSameOfBeginnings(t *testing.T) {
	kids := samples()
	for n := range kids {
		checkSame(t, raw(api.DerSeq, 0, kids[:n]...), raw(api.DerSeq, 0, kids[:n+1]...), false)
		checkSame(t, raw(api.DerSeq, 0, kids[:n]...), raw(api.DerSeq, 0, slices.Clone(kids[:n])...), true)
		checkSame(t, kids[n], raw(api.DerSeq, 0, kids[n]), false)
		checkSame(t, raw(api.DerSeq, 0, kids[n]), raw(api.DerSeq, 0, raw(api.DerSeq, 0, kids[n])), false)
		if n > 0 && len(kids) > n+1 { // as long as each other, and begun elsewhere
			checkSame(t, raw(api.DerSeq, 0, kids[:n]...), raw(api.DerSeq, 0, kids[1:n+1]...), false)
		}
	}
}

// A difference is found wherever it is, though lists that are the same, or the same list, come ahead of it.
func TestSameFindsADifferenceWhereverItIs(t *testing.T) {
	shared := raw(api.DerSeq, 0, der.Int(1), der.Int(2))
	for deep := 1; deep <= 14; deep++ {
		for i := range 5 {
			one, two := slices.Repeat([]api.Der{shared}, 5), slices.Repeat([]api.Der{shared}, 5)
			two[i] = raw(api.DerSeq, 0, der.Int(1), der.Int(3))
			checkSame(t, chain(deep, raw(api.DerSeq, 0, one...), api.DerSeq), chain(deep, raw(api.DerSeq, 0, two...), api.DerSeq), false)
			two[i] = raw(api.DerSeq, 0, der.Int(1), der.Int(2))
			checkSame(t, chain(deep, raw(api.DerSeq, 0, one...), api.DerSeq), chain(deep, raw(api.DerSeq, 0, two...), api.DerSeq), true)
		}
	}
}

// One list is held against several others.
func TestSameOfAListInSeveralPlaces(t *testing.T) {
	a, b := raw(api.DerSeq, 0, der.Int(1)), raw(api.DerSeq, 0, der.Int(1))
	c := raw(api.DerSeq, 0, der.Int(2))
	checkSame(t, raw(api.DerSeq, 0, a, a, a), raw(api.DerSeq, 0, a, b, c), false)
	checkSame(t, raw(api.DerSeq, 0, a, a, a), raw(api.DerSeq, 0, a, b, a), true)
	checkSame(t, raw(api.DerSeq, 0, a, b, c), raw(api.DerSeq, 0, b, a, c), true)
	checkSame(t, raw(api.DerSeq, 0, a, b, c), raw(api.DerSeq, 0, c, b, a), false)
	checkSame(t, raw(api.DerSeq, 0, raw(api.DerSeq, 0, a), a), raw(api.DerSeq, 0, raw(api.DerSeq, 0, b), c), false)
}

func TestSameIsAsItIsFieldByField(t *testing.T) {
	x := rand.New(rand.NewSource(5))
	var values []api.Der
	for range 400 {
		values = append(values, anything(x, 3, 200))
	}
	equal := 0
	for _, a := range values {
		for _, b := range values {
			want := alike(a, b)
			if der.Same(a, b) != want {
				t.Errorf("%s and %s are the same: %v", told(a), told(b), !want)
			}
			if want {
				equal++
			}
		}
	}
	if equal < len(values) {
		t.Errorf("only %d pairs are the same", equal)
	}
}
