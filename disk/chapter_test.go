package disk_test

import (
	"bytes"
	"fmt"
	"math/big"
	"math/rand"
	"slices"
	"testing"

	"escutcheon/api"
	"escutcheon/disk"
)

// size is how many bytes a block has.
const size = 512

// noFuse is a paper disk's fuse that there is not.
const noFuse = -1

// paper is the chapter worked once more, as plainly as its words are: what is settled, and each write behind it.
type paper struct {
	settled [][]byte
	writes  []written
	fuse    int
	dead    bool
}

type written struct {
	n int
	b []byte
}

func newPaper(blocks int) *paper {
	p := &paper{fuse: noFuse}
	for range blocks {
		p.settled = append(p.settled, make([]byte, size))
	}
	return p
}

func (p *paper) isBlock(n int) bool { return n >= 0 && n < len(p.settled) }

func (p *paper) read(n int) ([]byte, api.Errno) {
	if !p.isBlock(n) {
		return nil, api.ErrArg
	}
	b := p.settled[n]
	for _, w := range p.writes {
		if w.n == n {
			b = w.b
		}
	}
	return bytes.Clone(b), api.OK
}

func (p *paper) step() api.Errno {
	switch p.fuse {
	case noFuse:
		return api.OK
	case 0:
		p.dead = true
		return api.ErrDisk
	}
	p.fuse--
	return api.OK
}

func (p *paper) write(n int, b []byte) api.Errno {
	switch {
	case !p.isBlock(n) || len(b) != size:
		return api.ErrArg
	case p.dead:
		return api.ErrDead
	}
	p.writes = append(p.writes, written{n, bytes.Clone(b)})
	return p.step()
}

func (p *paper) sync() api.Errno {
	if p.dead {
		return api.ErrDead
	}
	err := p.step()
	if err == api.OK {
		for _, w := range p.writes {
			p.settled[w.n] = w.b
		}
		p.writes = nil
	}
	return err
}

func (p *paper) setFuse(steps int) api.Errno {
	if steps < 0 {
		return api.ErrArg
	}
	p.fuse = steps
	return api.OK
}

func (p *paper) crash(picks ...int) {
	for i, w := range p.writes {
		pick := 0
		if i < len(picks) {
			pick = picks[i]
		}
		lasts := first(pick, i == len(p.writes)-1)
		p.settled[w.n] = slices.Concat(w.b[:lasts], p.settled[w.n][lasts:])
	}
	p.writes, p.fuse, p.dead = nil, noFuse, false
}

// first is how many of a write's first bytes last, by numbers that are divided as Euclid has it.
func first(pick int, isLast bool) int {
	third, fate := new(big.Int).DivMod(big.NewInt(int64(pick)), big.NewInt(3), new(big.Int))
	switch fate.Int64() {
	case 0:
		return 0
	case 2:
		if isLast {
			return int(third.Mod(third, big.NewInt(size+1)).Int64())
		}
	}
	return size
}

func (p *paper) edit(n, at int, x byte) api.Errno {
	if !p.isBlock(n) || at < 0 || at >= size {
		return api.ErrArg
	}
	p.settled[n] = bytes.Clone(p.settled[n])
	p.settled[n][at] ^= x
	for i, w := range p.writes {
		if w.n == n {
			p.writes[i].b = bytes.Clone(w.b)
			p.writes[i].b[at] ^= x
		}
	}
	return api.OK
}

func (p *paper) copied() *paper {
	c := *p
	c.settled, c.writes = slices.Clone(p.settled), slices.Clone(p.writes) // their bytes are never changed, but replaced
	return &c
}

func (p *paper) isSame(o *paper) bool {
	if len(p.settled) != len(o.settled) {
		return false
	}
	for n := range p.settled {
		mine, _ := p.read(n)
		yours, _ := o.read(n)
		if !bytes.Equal(mine, yours) {
			return false
		}
	}
	return true
}

// both is a disk, and the chapter's beside it.
type both struct {
	t *testing.T
	d *disk.Disk
	p *paper
}

func newBoth(t *testing.T, blocks int) both {
	t.Helper()
	return both{t, made(t, blocks), newPaper(blocks)}
}

func made(t *testing.T, blocks int) *disk.Disk {
	t.Helper()
	d, err := disk.New(blocks)
	if err != api.OK || d == nil {
		t.Fatalf("New(%d): %v", blocks, err)
	}
	return d
}

func (b both) copied() both { return both{b.t, b.d.Copy(), b.p.copied()} }

func (b both) write(n int, bytes []byte) {
	b.t.Helper()
	b.err("Write", b.d.Write(n, bytes), b.p.write(n, bytes))
}

func (b both) sync() {
	b.t.Helper()
	b.err("Sync", b.d.Sync(), b.p.sync())
}

func (b both) setFuse(steps int) {
	b.t.Helper()
	b.err("SetFuse", b.d.SetFuse(steps), b.p.setFuse(steps))
}

func (b both) edit(n, at int, x byte) {
	b.t.Helper()
	b.err("Edit", b.d.Edit(n, at, x), b.p.edit(n, at, x))
}

func (b both) crash(picks ...int) {
	b.t.Helper()
	b.p.crash(picks...)
	b.err("Crash", b.d.Crash(picks...), api.OK)
}

func (b both) err(what string, got, want api.Errno) {
	b.t.Helper()
	if got != want {
		b.t.Fatalf("%s answers %v, not %v", what, got, want)
	}
}

// look holds against each other what can be seen of both.
func (b both) look() {
	b.t.Helper()
	if b.d.Blocks() != len(b.p.settled) || b.d.Dead() != b.p.dead || b.d.Unsynced() != len(b.p.writes) {
		b.t.Fatalf("%d blocks, dead %v, %d not synced; not %d, %v, %d", b.d.Blocks(), b.d.Dead(), b.d.Unsynced(), len(b.p.settled), b.p.dead, len(b.p.writes))
	}
	for n := -1; n <= len(b.p.settled); n++ {
		got, err := b.d.Read(n)
		want, wantErr := b.p.read(n)
		if err != wantErr || !bytes.Equal(got, want) {
			b.t.Fatalf("block %d is %s, %v; not %s, %v", n, short(got), err, short(want), wantErr)
		}
	}
}

// lookDeep looks at what shows only later, too: by copies that lose their power, and that use up their fuse.
func (b both) lookDeep(picks ...[]int) {
	b.t.Helper()
	b.look()
	for _, p := range append(picks, nil, slices.Repeat([]int{1}, len(b.p.writes)), slices.Repeat([]int{3*100 + 2}, len(b.p.writes))) {
		c := b.copied()
		c.crash(p...)
		c.look()
	}
	c := b.copied()
	for range 40 {
		c.sync()
		c.look()
	}
}

func some(x byte) []byte { return bytes.Repeat([]byte{x}, size) }

func random(x *rand.Rand) []byte {
	b := make([]byte, size)
	x.Read(b)
	return b
}

// short is a block as runs of one byte.
func short(b []byte) string {
	var told string
	runs := 0
	for at := 0; at < len(b); runs++ {
		n := 1
		for at+n < len(b) && b[at+n] == b[at] {
			n++
		}
		if runs == 6 {
			return told + " .."
		}
		told += fmt.Sprintf(" %d times %d", n, b[at])
		at += n
	}
	return told
}

// TestExamplesOfTheChapter: its table, and the same with the writes in other blocks.
func TestExamplesOfTheChapter(t *testing.T) {
	for n := range 2 {
		d := made(t, 2)
		for _, err := range []api.Errno{d.Write(n, some(7)), d.Sync(), d.Write(n, some(9))} {
			if err != api.OK {
				t.Fatal(err)
			}
		}
		torn := d.Copy()
		if err := d.Crash(0); err != api.OK {
			t.Fatal(err)
		}
		if b, err := d.Read(n); err != api.OK || !bytes.Equal(b, some(7)) {
			t.Error("behind Crash(0):", short(b), err)
		}
		if err := torn.Crash(3*2 + 2); err != api.OK {
			t.Fatal(err)
		}
		if b, err := torn.Read(n); err != api.OK || !bytes.Equal(b, slices.Concat([]byte{9, 9}, some(7)[2:])) {
			t.Error("behind Crash(3 * 2 + 2):", short(b), err)
		}
	}
}

// pickOf answers picks of all kinds, more and less likely ones.
func pickOf(x *rand.Rand) int {
	switch x.Intn(4) {
	case 0:
		return x.Intn(3)
	case 1:
		return 3*x.Intn(2000) + 2
	case 2:
		return -x.Intn(5000)
	}
	return int(x.Uint64())
}

func picksOf(x *rand.Rand, n int) []int {
	picks := make([]int, max(0, n+x.Intn(4)-2))
	for i := range picks {
		picks[i] = pickOf(x)
	}
	return picks
}

// act does something by chance to both.
func (b both) act(x *rand.Rand) {
	blocks := len(b.p.settled)
	switch x.Intn(14) {
	case 0, 1, 2, 3:
		b.write(x.Intn(blocks), random(x))
	case 4:
		b.write(x.Intn(blocks), some(byte(x.Intn(3))))
	case 5:
		b.write(x.Intn(blocks+2)-1, make([]byte, size+x.Intn(3)-1))
	case 6, 7:
		b.sync()
	case 8:
		b.setFuse(x.Intn(12) - 1)
	case 9, 10:
		b.edit(x.Intn(blocks), x.Intn(size), byte(x.Intn(256)))
	case 11:
		b.edit(x.Intn(blocks+2)-1, x.Intn(size+2)-1, byte(x.Intn(256)))
	case 12:
		b.crash(picksOf(x, len(b.p.writes))...)
	}
}

// TestAgainstTheChapter: calls of all kinds, in any order, come to what the chapter's words come to.
func TestAgainstTheChapter(t *testing.T) {
	for seed := range int64(300) {
		x := rand.New(rand.NewSource(seed))
		b := newBoth(t, 1+x.Intn(5))
		for range 60 {
			b.act(x)
			b.look()
		}
		b.lookDeep(picksOf(x, len(b.p.writes)), picksOf(x, len(b.p.writes)))
	}
}

// TestCopiesAgainstTheChapter: so do many disks that were copied of each other, and whether they are the same.
func TestCopiesAgainstTheChapter(t *testing.T) {
	for seed := range int64(60) {
		x := rand.New(rand.NewSource(seed))
		all := []both{newBoth(t, 1+x.Intn(3))}
		for range 80 {
			at := x.Intn(len(all))
			switch {
			case len(all) < 5 && x.Intn(8) == 0:
				all = append(all, all[at].copied())
			case len(all) < 5 && x.Intn(20) == 0:
				all = append(all, newBoth(t, 1+x.Intn(3)))
			default:
				all[at].act(x)
			}
			for _, b := range all {
				b.look()
				if all[at].d.Same(b.d) != all[at].p.isSame(b.p) || b.d.Same(all[at].d) != b.p.isSame(all[at].p) {
					t.Fatal("two disks are the same, or not, as the chapter has it not")
				}
			}
		}
		for _, b := range all {
			b.lookDeep()
		}
	}
}
