package word_test

import (
	"math"
	"strings"
	"testing"

	"retcon/word"
)

// registerNumbers are numbers at the edges of a register's bytes; they rise.
func registerNumbers() []uint64 {
	l := []uint64{0, 1, 2, 127, 128, 254}
	for bits := 8; bits < 64; bits += 8 {
		l = append(l, 1<<bits-1, 1<<bits, 1<<bits+1, 1<<bits+258)
	}
	return append(l, 1<<63-1, 1<<63, math.MaxUint64-1, math.MaxUint64)
}

// P1.4: a register's number, of any length.
func TestNum(t *testing.T) {
	for _, x := range []struct {
		s    string
		want uint64
	}{
		{"", 0},
		{"\x00", 0},
		{"\xff", 255},
		{"\x01\x02", 258},
		{"\x80\x00\x00", 1 << 23},
		{"\x01\x02\x03\x04\x05\x06\x07", 0x01020304050607},
		{"\x01\x02\x03\x04\x05\x06\x07\x08", 0x0102030405060708},
		{"\x80\x00\x00\x00\x00\x00\x00\x00", 1 << 63},
		{"\x01\x00\x00\x00\x00\x00\x00\x01\x02", 258},
		{"\xff\xff\xff\xff\xff\xff\xff\xff\xff", math.MaxUint64},
		{strings.Repeat("\xff", 56) + "\x00\x00\x00\x00\x00\x00\x00\x07", 7},
		{"ab", 97*256 + 98},
	} {
		if n := word.Num(x.s); n != x.want {
			t.Errorf("Num(%q): %d, want %d", x.s, n, x.want)
		}
	}
}

// P1.4: a number in a register has eight bytes, the highest first.
func TestVal(t *testing.T) {
	for _, x := range []struct {
		n    uint64
		want string
	}{
		{0, "\x00\x00\x00\x00\x00\x00\x00\x00"},
		{258, "\x00\x00\x00\x00\x00\x00\x01\x02"},
		{0x0102030405060708, "\x01\x02\x03\x04\x05\x06\x07\x08"},
		{1 << 63, "\x80\x00\x00\x00\x00\x00\x00\x00"},
		{math.MaxUint64, "\xff\xff\xff\xff\xff\xff\xff\xff"},
	} {
		if s := word.Val(x.n); s != x.want {
			t.Errorf("Val(%d): %q, want %q", x.n, s, x.want)
		}
	}
}

// P1.7: what a number in a register says is that number, and eight bytes are what they say.
func TestNumOfVal(t *testing.T) {
	for _, n := range registerNumbers() {
		s := word.Val(n)
		if len(s) != 8 || word.Num(s) != n || word.Val(word.Num(s)) != s {
			t.Errorf("%d: %q says %d", n, s, word.Num(s))
		}
	}
}

// P1.7: only a register's last eight bytes count; fewer are as if noughts stood ahead.
func TestLastEight(t *testing.T) {
	for _, n := range registerNumbers() {
		s := word.Val(n)
		for _, ahead := range []string{"\x00", "\x01", "\xff", "abcdefgh", strings.Repeat("\xff", 56)} {
			if word.Num(ahead+s) != n {
				t.Errorf("Num(%q): %d, want %d", ahead+s, word.Num(ahead+s), n)
			}
		}
		if short := strings.TrimLeft(s, "\x00"); word.Num(short) != n {
			t.Errorf("Num(%q): %d, want %d", short, word.Num(short), n)
		}
	}
}

// P1.7: the order of numbers is that of their texts.
func TestOrderOfVals(t *testing.T) {
	l := registerNumbers()
	for i, a := range l {
		for j, b := range l {
			if (a < b) != (word.Val(a) < word.Val(b)) || (i == j) != (word.Val(a) == word.Val(b)) {
				t.Errorf("%d, %d: %q, %q", a, b, word.Val(a), word.Val(b))
			}
		}
	}
}
