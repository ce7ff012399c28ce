// Package word is layer 1: numbers, texts and IDs as bytes: see shared/doc/01-word.md.
package word

import "math/bits"

const (
	sevens   = 7   // bits of a number that one byte of it has
	more     = 128 // what every byte of a number but the last has added
	longest  = 9   // bytes of the greatest number
	register = 8   // bytes of a number in a register
)

// Size tells how many bytes a number is written as: 0, if it is none.
func Size(n int) int {
	if n < 0 {
		return 0
	}
	return max(1, (bits.Len64(uint64(n))+sevens-1)/sevens)
}

// Num tells a register's number: what its last eight bytes say.
func Num(s string) uint64 {
	n := uint64(0)
	for i := max(0, len(s)-register); i < len(s); i++ {
		n = n<<8 | uint64(s[i])
	}
	return n
}

// Val tells a number in a register: eight bytes, so that texts stand in the order of their numbers.
func Val(n uint64) string {
	var b [register]byte
	for i := range b {
		b[register-1-i] = byte(n >> (8 * i))
	}
	return string(b[:])
}
