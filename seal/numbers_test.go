package seal_test

import (
	"crypto/sha256"
	"encoding/hex"
	"testing"

	"escutcheon/api"
	"escutcheon/disk"
	"escutcheon/seal"
)

// sevens is n bytes, each 7 more than the one ahead of it.
func sevens(n, from int) []byte {
	b := make([]byte, n)
	for i := range b {
		b[i] = byte(7*i + from)
	}
	return b
}

func hashOf(d *disk.Disk) string {
	h := sha256.New()
	for n := range d.Blocks() {
		b, _ := d.Read(n)
		h.Write(b)
	}
	return hex.EncodeToString(h.Sum(nil))
}

// TestNumbersOfAnotherImplementation: the counter, and the hash of all bytes of the disk, behind each call, as a program in another language came to them by other libraries.
func TestNumbersOfAnotherImplementation(t *testing.T) {
	d, c := made(t, 32), seal.NewCounter()
	var j *seal.Journal
	open := func() api.Errno {
		var err api.Errno
		j, err = seal.Open(d, c, api.Key(counted(32)))
		return err
	}
	turn := func(n, from int) func() api.Errno {
		return func() api.Errno { return j.Turn(sevens(n, from)) }
	}
	put := func(n, from int) func() api.Errno {
		return func() api.Errno { return j.Put(sevens(n, from)) }
	}
	for i, step := range []struct {
		call  func() api.Errno
		value uint64
		hash  string
	}{
		{open, 1, "4fe7b59af6de3b665b67788cc2f99892ab827efae3a467342b3bb4e3bc8e5bfe"},
		{turn(100, 1), 131072, "fdb18a74a0276fc154fb723dcdd93de03caff0702870c4c8d6264429646cdf14"},
		{put(0, 0), 196608, "eec480a400daa2c82325e50ca05a6aa0dbeb80249263dc9b8c9209b3f0f93211"},
		{put(492, 2), 262144, "2fe1043c1d5ff2d2b6392943b8377161e9cf7d7f830504872d6ed3f71d986f9c"},
		{put(493, 3), 327680, "5bbe07683883c5a4a39d60ba18a4e0f6a601b2e660eb8234c55bc959433dbd79"},
		{put(1516, 4), 393216, "9c49a2277c5be89bddca35da16f7ee9bcb92068c4f4447c8f71df729ae460cae"},
		{turn(484, 5), 458752, "c72e0554cd35d1a8f976c3f218e2aadd2f901a14768e868334ad49e05b553901"},
		{put(7, 6), 524288, "0439d2e0458ef73134b95bc73adf1069278313592973ebfcdca2d708d2bb7080"},
		{turn(485, 7), 589824, "32b313b369d6d8e57376614da71d6e02da490ab972c7f69f6f8aedffcef7bde8"},
		{open, 589825, "32b313b369d6d8e57376614da71d6e02da490ab972c7f69f6f8aedffcef7bde8"},
		{open, 589826, "32b313b369d6d8e57376614da71d6e02da490ab972c7f69f6f8aedffcef7bde8"},
		{turn(0, 0), 786432, "66d1338b92e91a36be7ec279c17ccbb5bcdf9cf83219cf5f2537a35e8c01eb5f"},
		{put(3000, 8), 851968, "b33744157f969629373ece4cc20bb06f9dcf6eff1c2965c96781dfa06756ac9a"},
	} {
		if err := step.call(); err != api.OK || c.Value() != step.value || hashOf(d) != step.hash {
			t.Fatalf("step %d: %v, the counter is %d, the disk's hash %s", i, err, c.Value(), hashOf(d))
		}
	}
}

func counted(n int) []byte {
	b := make([]byte, n)
	for i := range b {
		b[i] = byte(i)
	}
	return b
}
