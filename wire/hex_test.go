package wire_test

import (
	"bytes"
	"strconv"
	"strings"
	"testing"

	"escutcheon/api"
	"escutcheon/wire"
)

func TestHexOfEachByte(t *testing.T) {
	var all []byte
	var text strings.Builder
	for n := range 256 {
		want := strconv.FormatInt(int64(256+n), 16)[1:]
		if s := wire.Hex([]byte{byte(n)}); s != want {
			t.Errorf("Hex(%d) = %q", n, s)
		}
		if b, err := wire.OfHex(want); err != api.OK || !bytes.Equal(b, []byte{byte(n)}) {
			t.Errorf("OfHex(%q) = %v, %v", want, b, err)
		}
		all = append(all, byte(n))
		text.WriteString(want)
	}
	if wire.Hex(all) != text.String() {
		t.Error("Hex of all bytes")
	}
	if b, err := wire.OfHex(text.String()); err != api.OK || !bytes.Equal(b, all) {
		t.Error("OfHex of all bytes", err)
	}
}

func TestHexOfNone(t *testing.T) {
	if wire.Hex(nil) != "" || wire.Hex([]byte{}) != "" {
		t.Error("Hex of none")
	}
	if b, err := wire.OfHex(""); err != api.OK || len(b) != 0 {
		t.Error("OfHex of none", b, err)
	}
}

func TestOfHexOfEachText(t *testing.T) {
	digit := func(c int) bool { return strings.IndexByte("0123456789abcdef", byte(c)) >= 0 }
	for x := range 256 {
		for y := range 256 {
			s := string([]byte{byte(x), byte(y)})
			b, err := wire.OfHex(s)
			if digit(x) && digit(y) {
				if err != api.OK || wire.Hex(b) != s {
					t.Errorf("OfHex(%q) = %v, %v", s, b, err)
				}
			} else if err != api.ErrBytes || len(b) != 0 {
				t.Errorf("OfHex(%q) = %v, %v", s, b, err)
			}
		}
	}
}

func TestOfHexOfNoText(t *testing.T) {
	for _, s := range []string{
		"0", "a", "abc", "00f", "0a0b0", // odd
		"AB", "aB", "00FF", "0g", "g0", "00/0", "0:00", "`0", "0x00", "+1", "-1", " 0", "0 ", "ab cd", "ab\n", "00\n0", "\x0000",
		"é", "é0", "0é", "00é0", "é00", // two bytes, one rune
		"\u0660\u0661", "\uff11\uff12", "\uff41\uff41", "\u00bd", "\u4e00", "a\u4e00", "\U0001d7ce", "\U0001d7ce00", // digits, letters, but others
		"\u0130", "\u0131\u0130", "\u0161\u0161", // their lowest bits are those of digits
		"\xff\xff", "\xc3", "0\xff", "00\xff\xff", "\xe2\x82", // no UTF-8
		strings.Repeat("0", 999), strings.Repeat("00", 500) + "0x", "x" + strings.Repeat("0", 999),
	} {
		if b, err := wire.OfHex(s); err != api.ErrBytes || len(b) != 0 {
			t.Errorf("OfHex(%q) = %v, %v", s, b, err)
		}
	}
}
