package seal_test

import (
	"bytes"
	"fmt"
	"math/rand"
	"slices"
	"testing"

	"escutcheon/aead"
	"escutcheon/api"
	"escutcheon/disk"
	"escutcheon/hkdf"
	"escutcheon/seal"
)

// size is how many bytes a block has, base is how far the counter rises for a commit.
const (
	size = 512
	base = 65536
)

// secret is the one of all tests that ask for no other one.
var secret = api.Key{3, 1, 4, 1, 5, 9, 2, 6, 31: 5}

// line is a record: its number, and its content.
type line struct {
	number  uint64
	content []byte
}

// paper is the chapter worked once more, as plainly as its words are: a disk and a counter of its own, to which the same is done.
type paper struct {
	d             *disk.Disk
	commit, burns uint64
	key           api.Key

	isOpen, isTurned, isDead bool
	half, end                int // the current half, and the block of it behind the last record
	lines                    []line
	next                     uint64

	sealed map[uint64]string // by numbers, what was sealed of each
}

func newPaper(t *testing.T, blocks int, secret api.Key) *paper {
	return &paper{d: made(t, blocks), key: hkdf.Mac(secret[:], []byte("journal")), sealed: map[uint64]string{}}
}

// placeOf is a record's place: 8 bytes, a byte, a byte.
func placeOf(first uint64, half int, isFirst bool) []byte {
	place := make([]byte, 10)
	for i := range 8 {
		place[i] = byte(first >> (56 - 8*i))
	}
	place[8] = byte(half)
	if isFirst {
		place[9] = 1
	}
	return place
}

// recordOf is a record as bytes, with the noughts behind it.
func recordOf(key api.Key, number, first uint64, half int, isFirst bool, content []byte) []byte {
	var b []byte
	if isFirst {
		b = placeOf(first, 0, false)[:8]
	}
	n := len(content)
	b = append(b, byte(n>>24), byte(n>>16), byte(n>>8), byte(n))
	b = append(b, aead.Seal(key, [12]byte{4: byte(number), 5: byte(number >> 8), 6: byte(number >> 16), 7: byte(number >> 24), 8: byte(number >> 32), 9: byte(number >> 40), 10: byte(number >> 48), 11: byte(number >> 56)}, placeOf(first, half, isFirst), content)...)
	for len(b)%size != 0 {
		b = append(b, 0)
	}
	return b
}

// linesOf are a half's records, and the block of it behind them.
func (p *paper) linesOf(half int) ([]line, int) {
	var all []byte
	blocks := p.d.Blocks() / 2
	for n := half * blocks; n < (half+1)*blocks; n++ {
		b, _ := p.d.Read(n)
		all = append(all, b...)
	}
	first := uint64(0)
	for _, x := range all[:8] {
		first = first<<8 | uint64(x)
	}
	var lines []line
	for at := 0; at < len(all); {
		number := first + uint64(len(lines))
		begin := at
		if at == 0 {
			begin = 8
		}
		n := int(all[begin])<<24 | int(all[begin+1])<<16 | int(all[begin+2])<<8 | int(all[begin+3])
		if begin+4+n+16 > len(all) {
			return lines, at / size
		}
		content, err := aead.Open(p.key, aead.Nonce(number), placeOf(first, half, at == 0), all[begin+4:begin+4+n+16])
		if err != api.OK {
			return lines, at / size
		}
		lines = append(lines, line{number, content})
		for at = begin + 4 + n + 16; at%size != 0; {
			at++
		}
	}
	return lines, blocks
}

func (p *paper) open() api.Errno {
	p.isOpen, p.isTurned, p.isDead = false, false, false
	p.half, p.lines = 1, nil
	greatest := -1
	for half := range 2 {
		lines, _ := p.linesOf(half)
		if len(lines) > 0 && int(lines[len(lines)-1].number) > greatest && lines[len(lines)-1].number >= p.commit {
			greatest, p.half, p.lines = int(lines[len(lines)-1].number), half, lines
		}
	}
	if p.lines == nil && p.commit != 0 {
		return api.ErrTamper
	}
	if p.burns == 65535 {
		return api.ErrSpent
	}
	p.isOpen = true
	p.next = p.commit + p.burns + 2
	p.burns++
	return api.OK
}

func (p *paper) turn(content []byte) api.Errno {
	if p.isDead {
		return api.ErrDead
	}
	if (8+4+len(content)+16+size-1)/size > p.d.Blocks()/2 {
		return api.ErrFull
	}
	half := 1 - p.half
	b := recordOf(p.key, p.next, p.next, half, true, content)
	if err := p.write(half*p.d.Blocks()/2, b, content); err != api.OK {
		return err
	}
	p.half, p.end, p.isTurned = half, len(b)/size, true
	p.lines = []line{{p.next, bytes.Clone(content)}}
	p.next++
	return api.OK
}

func (p *paper) put(content []byte) api.Errno {
	switch {
	case p.isDead:
		return api.ErrDead
	case !p.isTurned:
		return api.ErrState
	case p.end*size+4+len(content)+16 > p.d.Blocks()/2*size:
		return api.ErrFull
	}
	b := recordOf(p.key, p.next, p.lines[0].number, p.half, false, content)
	if err := p.write(p.half*p.d.Blocks()/2+p.end, b, content); err != api.OK {
		return err
	}
	p.end += len(b) / size
	p.lines = append(p.lines, line{p.next, bytes.Clone(content)})
	p.next++
	return api.OK
}

func (p *paper) write(at int, b, content []byte) api.Errno {
	if text, was := p.sealed[p.next]; was && text != string(b) {
		panic(fmt.Sprint("two contents were sealed of the number ", p.next))
	}
	p.sealed[p.next] = string(b)
	for n := 0; n < len(b); n += size {
		if p.d.Write(at+n/size, b[n:n+size]) != api.OK {
			p.isDead = true
			return api.ErrDisk
		}
	}
	if p.d.Sync() != api.OK {
		p.isDead = true
		return api.ErrDisk
	}
	p.commit, p.burns = p.next, 0
	return api.OK
}

func (p *paper) last() uint64 {
	if len(p.lines) == 0 {
		return 0
	}
	return p.lines[len(p.lines)-1].number
}

func (p *paper) room() int {
	if !p.isTurned {
		return 0
	}
	return max(0, (p.d.Blocks()/2-p.end)*size-20)
}

// both is a journal, and the chapter's beside it.
type both struct {
	t *testing.T
	d *disk.Disk
	c *seal.Counter
	j *seal.Journal
	p *paper
}

func newBoth(t *testing.T, blocks int) *both {
	t.Helper()
	return &both{t, made(t, blocks), seal.NewCounter(), nil, newPaper(t, blocks, secret)}
}

func made(t *testing.T, blocks int) *disk.Disk {
	t.Helper()
	d, err := disk.New(blocks)
	if err != api.OK {
		t.Fatalf("disk.New(%d): %v", blocks, err)
	}
	return d
}

func (b *both) err(what string, got, want api.Errno) {
	b.t.Helper()
	if got != want {
		b.t.Fatalf("%s answers %v, not %v", what, got, want)
	}
}

func (b *both) open() {
	b.t.Helper()
	j, err := seal.Open(b.d, b.c, secret)
	b.err("Open", err, b.p.open())
	if (j == nil) != (err != api.OK) {
		b.t.Fatal("a journal beside an error, or none", err)
	}
	b.j = j
}

func (b *both) turn(content []byte) {
	b.t.Helper()
	b.err("Turn", b.j.Turn(content), b.p.turn(content))
}

func (b *both) put(content []byte) {
	b.t.Helper()
	b.err("Put", b.j.Put(content), b.p.put(content))
}

func (b *both) setFuse(steps int) {
	b.d.SetFuse(steps)
	b.p.d.SetFuse(steps)
}

func (b *both) crash(picks ...int) {
	b.d.Crash(picks...)
	b.p.d.Crash(picks...)
}

func (b *both) edit(n, at int, x byte) {
	b.d.Edit(n, at, x)
	b.p.d.Edit(n, at, x)
}

// look holds against each other what can be seen of both: on the disks, of the counters, of the journals.
func (b *both) look() {
	b.t.Helper()
	if !b.d.Same(b.p.d) || b.d.Unsynced() != b.p.d.Unsynced() || b.d.Dead() != b.p.d.Dead() {
		b.t.Fatal("the disks are not the same", b.d.Unsynced(), b.p.d.Unsynced(), b.d.Dead(), b.p.d.Dead())
	}
	if want := b.p.commit*base + b.p.burns; b.c.Value() != want {
		b.t.Fatalf("the counter is %d, not %d", b.c.Value(), want)
	}
	if b.p.isOpen {
		checkJournal(b.t, b.j, b.p.lines)
		if b.j.Room() != b.p.room() || b.j.Last() != b.p.last() || b.j.Dead() != b.p.isDead {
			b.t.Fatalf("room %d, last %d, dead %v; not %d, %d, %v", b.j.Room(), b.j.Last(), b.j.Dead(), b.p.room(), b.p.last(), b.p.isDead)
		}
	}
}

// checkJournal says whether a journal has just these records, a snapshot and changes, or, of none, nothing.
func checkJournal(t *testing.T, j *seal.Journal, lines []line) {
	t.Helper()
	var snapshot []byte
	if len(lines) > 0 {
		snapshot, lines = lines[0].content, lines[1:]
	}
	if got := j.Snapshot(); !bytes.Equal(got, snapshot) {
		t.Fatalf("the snapshot has %d bytes, %.20q; not %d, %.20q", len(got), got, len(snapshot), snapshot)
	}
	got := changes(j)
	if !slices.EqualFunc(got, lines, sameLine) {
		t.Fatalf("the changes are %.200v, not %.200v", got, lines)
	}
}

func sameLine(a, b line) bool {
	return a.number == b.number && bytes.Equal(a.content, b.content)
}

func changes(j *seal.Journal) []line {
	var all []line
	for number, content := range j.Changes() {
		all = append(all, line{number, content})
	}
	return all
}

// some is n bytes, other ones for each x.
func some(n, x int) []byte {
	b := make([]byte, n)
	rand.New(rand.NewSource(int64(n)<<20 + int64(x))).Read(b)
	return b
}

func checkErr(t *testing.T, got, want api.Errno) {
	t.Helper()
	if got != want {
		t.Fatalf("the answer is %v, not %v", got, want)
	}
}

func opened(t *testing.T, d *disk.Disk, c *seal.Counter) *seal.Journal {
	t.Helper()
	j, err := seal.Open(d, c, secret)
	if err != api.OK || j == nil {
		t.Fatalf("Open: %v", err)
	}
	return j
}

// TestExamplesOfTheChapter: its table.
func TestExamplesOfTheChapter(t *testing.T) {
	d, c := made(t, 4), seal.NewCounter()
	checkErr(t, opened(t, d, c).Put(nil), api.ErrState)

	j := opened(t, d, c)
	checkErr(t, j.Turn([]byte("a")), api.OK)
	was := d.Copy()
	checkErr(t, j.Put([]byte("b")), api.OK)
	again := opened(t, d, c)
	if changes := changes(again); string(again.Snapshot()) != "a" || len(changes) != 1 || string(changes[0].content) != "b" {
		t.Error("a; b:", again.Snapshot(), changes)
	}
	if j, err := seal.Open(was, c, secret); j != nil || err != api.ErrTamper {
		t.Error("a disk that was put back:", err)
	}
}

// length answers how many bytes a content may have, by chance: more often about a block's end, and where it has no room.
func length(x *rand.Rand, blocks int) int {
	switch x.Intn(4) {
	case 0:
		return x.Intn(30)
	case 1:
		return max(0, size*x.Intn(blocks/2+1)-28+x.Intn(12))
	}
	return x.Intn(size * 2)
}

// act does something by chance to both.
func (b *both) act(x *rand.Rand, i int) {
	blocks := b.d.Blocks()
	switch x.Intn(16) {
	case 0, 1:
		b.turn(some(length(x, blocks), i))
	case 2, 3, 4, 5, 6, 7:
		b.put(some(length(x, blocks), i))
	case 8:
		b.setFuse(x.Intn(6))
	case 9:
		if x.Intn(3) == 0 {
			b.edit(x.Intn(blocks), x.Intn(40), byte(x.Intn(256)))
		}
	case 10, 11:
		b.open()
	case 12, 13:
		picks := make([]int, b.d.Unsynced())
		for i := range picks {
			picks[i] = x.Intn(3 * 514)
		}
		b.crash(picks...)
		b.open()
	}
}

// TestAgainstTheChapter: calls of all kinds, in any order, come to what the chapter's words come to: on the disk, too.
func TestAgainstTheChapter(t *testing.T) {
	tampered := 0
	for seed := range int64(600) {
		x := rand.New(rand.NewSource(seed))
		b := newBoth(t, 4+2*x.Intn(6))
		b.open()
		for i := range 60 {
			b.act(x, i)
			b.look()
			if !b.p.isOpen { // it was changed: nothing comes up of it any more
				tampered++
				break
			}
		}
	}
	if tampered < 20 || tampered > 400 {
		t.Error("of 600 journals", tampered, "were found to be changed")
	}
}
