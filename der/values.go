package der

import (
	"bytes"
	"slices"
	"unicode/utf8"

	"escutcheon/api"
)

const (
	minArcs    = 2
	maxArcs    = 16
	maxFirst   = 2
	maxArc     = 1<<31 - 1
	maxTag     = 30
	timeDigits = 14
)

// list tells one list of kids from others by where it stands: a value may hold it in many places, and within itself.
type list struct {
	first *api.Der
	n     int
}

// pair is two lists that are as long as each other.
type pair struct{ a, b []api.Der }

// step is a list that is being copied: its copy, which from its item at on still holds what the list holds.
type step struct {
	from list
	to   []api.Der
	at   int
}

func listOf(kids []api.Der) list {
	if len(kids) == 0 {
		return list{}
	}
	return list{&kids[0], len(kids)}
}

func May(v api.Der) bool {
	level, may := [][]api.Der{{v}}, true
	for range api.MaxDeep {
		level, may = below(level)
		if !may {
			return false
		}
	}
	return len(level) == 0
}

// below answers the lists of kids that are below a level, each once, and whether all in the level itself may be.
func below(level [][]api.Der) ([][]api.Der, bool) {
	var next [][]api.Der
	seen := map[list]int{}
	for _, kids := range level {
		for _, v := range kids {
			if !mayAlone(v) {
				return nil, false
			}
			l := listOf(v.Kids)
			if seen[l]++; seen[l] == 1 && l.n > 0 {
				next = append(next, v.Kids)
			}
		}
	}
	return next, true
}

// mayAlone says of a value whether it may be, whatever its kids are.
func mayAlone(v api.Der) bool {
	if !isPlain(v) {
		return false
	}
	switch v.Kind {
	case api.DerOid:
		return mayOid(v.Arcs)
	case api.DerText:
		return utf8.ValidString(v.Text)
	case api.DerTime:
		return isTime(v.Text)
	case api.DerTag:
		if v.N < 0 || v.N > maxTag {
			return false
		}
		fallthrough
	case api.DerSet:
		return len(v.Kids) == 1
	}
	return true
}

// isPlain says whether a value is of a kind that there is, and what this does not name is zero.
func isPlain(v api.Der) bool {
	switch v.Kind {
	case api.DerBool:
		v.Flag = false
	case api.DerInt:
		v.N = 0
	case api.DerBits, api.DerOctets:
		v.Bytes = nil
	case api.DerOid:
		v.Arcs = nil
	case api.DerText, api.DerTime:
		v.Text = ""
	case api.DerTag:
		v.N = 0
		fallthrough
	case api.DerSeq, api.DerSet:
		v.Kids = nil
	default:
		return false
	}
	return isSame(v, api.Der{Kind: v.Kind})
}

func mayOid(arcs []uint64) bool {
	if len(arcs) < minArcs || len(arcs) > maxArcs || slices.Max(arcs) > maxArc {
		return false
	}
	return arcs[0] <= maxFirst && (arcs[0] == maxFirst || arcs[1] < firstWeight)
}

func isTime(s string) bool {
	if len(s) != timeDigits+1 || s[timeDigits] != 'Z' {
		return false
	}
	for _, c := range s[:timeDigits] {
		if c < '0' || c > '9' {
			return false
		}
	}
	return true
}

// Same goes by a list of what is still to be held against each other, each two lists once, as what may not be is of any depth, or within itself.
func Same(a, b api.Der) bool {
	todo := []pair{{[]api.Der{a}, []api.Der{b}}}
	seen := map[[2]list]int{}
	for at := 0; at < len(todo); at++ {
		for i, x := range todo[at].a {
			y := todo[at].b[i]
			if !isSame(x, y) {
				return false
			}
			lists := [2]list{listOf(x.Kids), listOf(y.Kids)}
			if seen[lists]++; seen[lists] == 1 {
				todo = append(todo, pair{x.Kids, y.Kids})
			}
		}
	}
	return true
}

// isSame does not look at what the kids are.
func isSame(a, b api.Der) bool {
	return a.Kind == b.Kind && a.Flag == b.Flag && a.N == b.N && a.Text == b.Text &&
		bytes.Equal(a.Bytes, b.Bytes) && slices.Equal(a.Arcs, b.Arcs) && len(a.Kids) == len(b.Kids)
}

func Int(n int64) api.Der {
	return api.Der{Kind: api.DerInt, N: n}
}

func Text(s string) api.Der {
	return api.Der{Kind: api.DerText, Text: s}
}

func Octets(b []byte) api.Der {
	return api.Der{Kind: api.DerOctets, Bytes: bytes.Clone(b)}
}

func Bits(b []byte) api.Der {
	return api.Der{Kind: api.DerBits, Bytes: bytes.Clone(b)}
}

func Oid(arcs ...uint64) api.Der {
	return api.Der{Kind: api.DerOid, Arcs: slices.Clone(arcs)}
}

func Seq(kids ...api.Der) api.Der {
	return api.Der{Kind: api.DerSeq, Kids: copied(kids)}
}

func Tag(n int, kid api.Der) api.Der {
	return api.Der{Kind: api.DerTag, N: int64(n), Kids: copied([]api.Der{kid})}
}

func Set(kid api.Der) api.Der {
	return api.Der{Kind: api.DerSet, Kids: copied([]api.Der{kid})}
}

// copied answers kids, and all that is in them, in new memory. It keeps its way down in a list, as kids may be of any depth; a list that is within itself has a copy that is within itself.
func copied(kids []api.Der) []api.Der {
	all := slices.Clone(kids)
	path := []step{{to: all}}
	above := map[list][]api.Der{}
	for len(path) > 0 {
		s := &path[len(path)-1]
		if s.at == len(s.to) {
			delete(above, s.from)
			path = path[:len(path)-1]
			continue
		}
		v := &s.to[s.at]
		s.at++
		v.Bytes, v.Arcs = bytes.Clone(v.Bytes), slices.Clone(v.Arcs)
		from := listOf(v.Kids)
		made, isAbove := above[from]
		if !isAbove {
			made = slices.Clone(v.Kids)
			above[from] = made
			path = append(path, step{from: from, to: made})
		}
		v.Kids = made
	}
	return all
}
