package sign_test

import (
	"bytes"
	"math/rand"
	"slices"
	"sync"
	"testing"

	"escutcheon/api"
	"escutcheon/edwards"
	"escutcheon/sign"
	"escutcheon/wire"
)

// What is handed in is not changed: neither the parts, nor the list of them, nor what has room behind them.
func TestArgumentsStay(t *testing.T) {
	seed := seedOf(1)
	room := some(300)
	list := slices.Repeat([][]byte{[]byte("behind")}, 8)
	parts := append(list[:0], room[:40], nil, room[40:100])
	sig := sign.Sign(seed, parts...)
	if sign.Check(sign.Public(seed), sig, parts...) != api.OK || sign.Sign(seed, parts...) != sig {
		t.Error("signed again, it has another signature")
	}
	if !bytes.Equal(room, some(300)) {
		t.Error("the message was changed, or what is behind it")
	}
	if len(parts) != 3 || !bytes.Equal(parts[0], room[:40]) || parts[1] != nil || !bytes.Equal(parts[2], room[40:100]) {
		t.Error("the list of parts was changed")
	}
	for _, part := range list[3:] {
		if string(part) != "behind" {
			t.Error("what has room behind the list of parts was changed")
		}
	}
}

// A signature stays what it is, whatever becomes of the message.
func TestAnswersStay(t *testing.T) {
	seed, m := seedOf(2), some(100)
	sig, public := sign.Sign(seed, m), sign.Public(seed)
	before, was := sig, public
	clear(m)
	sign.Sign(seed, m)
	if sig != before || public != was || sign.Check(public, sig, m) != api.ErrAuth || sign.Check(public, sig, some(100)) != api.OK {
		t.Error("a signature changed with its message")
	}
	sig[0] ^= 1
	public[0] ^= 1
	if sign.Sign(seed, some(100)) != before || sign.Public(seed) != was {
		t.Error("what was changed is answered again")
	}
}

// One part may come many times, and parts may share their bytes.
func TestPartsThatShare(t *testing.T) {
	seed, m := seedOf(3), some(90)
	for _, parts := range [][][]byte{{m, m, m}, {m[:60], m[30:], m[10:11], m}} {
		want := signs(t, seed, bytes.Join(parts, nil))
		if sign.Sign(seed, parts...) != want || sign.Check(sign.Public(seed), want, parts...) != api.OK {
			t.Error("parts that share their bytes are another message")
		}
	}
}

func TestManyAtATime(t *testing.T) {
	all := seeds()
	sigs := make([]api.Long, len(all))
	for i, seed := range all {
		sigs[i] = sign.Sign(seed, some(i))
	}
	var workers sync.WaitGroup
	for worker := range 8 {
		workers.Go(func() {
			for i := range all {
				at := (i + worker) % len(all)
				m := some(at)
				if sign.Sign(all[at], m[:at/2], m[at/2:]) != sigs[at] {
					t.Errorf("the seed %d of many goroutines has another signature", at)
				}
				if err := sign.Check(sign.Public(all[at]), sigs[at], m); err != api.OK {
					t.Errorf("the signature %d of many goroutines: Check is %d", at, err)
				}
			}
		})
	}
	workers.Wait()
}

// TestNoCallPanics gives all calls any bytes, many of them at an edge: a panic ends the test. Of publics that are some point's bytes, what Check says is what the library says.
func TestNoCallPanics(t *testing.T) {
	x := rand.New(rand.NewSource(4))
	edge := [...]byte{0, 1, 16, 127, 128, 237, 255}
	odd := func(b []byte) {
		x.Read(b)
		for i := range b {
			if x.Intn(2) == 0 {
				b[i] = edge[x.Intn(len(edge))]
			}
		}
	}
	points, _ := few(t)
	for i := range 400 {
		var seed, public api.Key
		var sig api.Long
		odd(seed[:])
		odd(public[:])
		odd(sig[:])
		parts := make([][]byte, x.Intn(5))
		for i := range parts {
			parts[i] = some(x.Intn(60))
		}
		switch i % 4 {
		case 0:
			public = points[x.Intn(len(points))]
		case 1:
			public = sign.Public(seed)
			sig = sign.Sign(seed, parts...)
			sig[x.Intn(64)] ^= byte(x.Intn(2))
		case 2:
			sig[63] &= 15
		}
		got := sign.Check(public, sig, parts...)
		if _, ok := edwards.Of(public); !ok {
			if got != api.ErrAuth {
				t.Errorf("%s is no point's bytes: Check is %d", wire.Hex(public[:]), got)
			}
		} else if want := library(public, sig, bytes.Join(parts, nil)); got != want {
			t.Errorf("the public %s, the signature %s: Check is %d, not %d", wire.Hex(public[:]), wire.Hex(sig[:]), got, want)
		}
	}
}
