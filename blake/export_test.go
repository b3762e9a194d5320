package blake

// Pressed lets the tests press a block of any state and count: no message of theirs has so many bytes.
func Pressed(h [8]uint32, block []byte, t uint64, last bool) [8]uint32 {
	return state(h).pressed(block, t, last)
}
