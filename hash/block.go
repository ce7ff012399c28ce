package hash

import "math/bits"

const (
	wordSize  = 4  // bytes of a word
	blockSize = 64 // bytes of a block
	rounds    = 64 // words that a block is stretched to
)

type (
	state [8]uint32
	block [blockSize]byte
)

// first is the state ahead of all blocks.
var first = state{0x6a09e667, 0xbb67ae85, 0x3c6ef372, 0xa54ff53a, 0x510e527f, 0x9b05688c, 0x1f83d9ab, 0x5be0cd19}

// roots are the document's K.
var roots = [rounds]uint32{
	0x428a2f98, 0x71374491, 0xb5c0fbcf, 0xe9b5dba5, 0x3956c25b, 0x59f111f1, 0x923f82a4, 0xab1c5ed5,
	0xd807aa98, 0x12835b01, 0x243185be, 0x550c7dc3, 0x72be5d74, 0x80deb1fe, 0x9bdc06a7, 0xc19bf174,
	0xe49b69c1, 0xefbe4786, 0x0fc19dc6, 0x240ca1cc, 0x2de92c6f, 0x4a7484aa, 0x5cb0a9dc, 0x76f988da,
	0x983e5152, 0xa831c66d, 0xb00327c8, 0xbf597fc7, 0xc6e00bf3, 0xd5a79147, 0x06ca6351, 0x14292967,
	0x27b70a85, 0x2e1b2138, 0x4d2c6dfc, 0x53380d13, 0x650a7354, 0x766a0abb, 0x81c2c92e, 0x92722c85,
	0xa2bfe8a1, 0xa81a664b, 0xc24b8b70, 0xc76c51a3, 0xd192e819, 0xd6990624, 0xf40e3585, 0x106aa070,
	0x19a4c116, 0x1e376c08, 0x2748774c, 0x34b0bcb5, 0x391c0cb3, 0x4ed8aa4a, 0x5b9cca4f, 0x682e6ff3,
	0x748f82ee, 0x78a5636f, 0x84c87814, 0x8cc70208, 0x90befffa, 0xa4506ceb, 0xbef9a3f7, 0xc67178f2,
}

// changed is a state behind one block more.
func changed(s state, in block) state {
	w := stretched(in)
	a, b, c, d, e, f, g, h := s[0], s[1], s[2], s[3], s[4], s[5], s[6], s[7]
	for i := range rounds {
		t := h + turnE(e) + ch(e, f, g) + roots[i] + w[i]
		u := turnA(a) + maj(a, b, c)
		h, g, f, e, d, c, b, a = g, f, e, d+t, c, b, a, t+u
	}
	return state{s[0] + a, s[1] + b, s[2] + c, s[3] + d, s[4] + e, s[5] + f, s[6] + g, s[7] + h}
}

// stretched is a block's words: its own sixteen, and those that follow from them.
func stretched(b block) [rounds]uint32 {
	var w [rounds]uint32
	for i, x := range b {
		w[i/wordSize] = w[i/wordSize]<<8 | uint32(x)
	}
	for t := blockSize / wordSize; t < rounds; t++ {
		w[t] = turnQ(w[t-2]) + w[t-7] + turnP(w[t-15]) + w[t-16]
	}
	return w
}

func ch(x, y, z uint32) uint32  { return x&y ^ ^x&z }
func maj(x, y, z uint32) uint32 { return x&y ^ x&z ^ y&z }

func turnA(x uint32) uint32 { return right(x, 2) ^ right(x, 13) ^ right(x, 22) }
func turnE(x uint32) uint32 { return right(x, 6) ^ right(x, 11) ^ right(x, 25) }
func turnP(x uint32) uint32 { return right(x, 7) ^ right(x, 18) ^ x>>3 }
func turnQ(x uint32) uint32 { return right(x, 17) ^ right(x, 19) ^ x>>10 }

// right turns a word to the right, which the library calls to the left by less than nothing.
func right(x uint32, n int) uint32 { return bits.RotateLeft32(x, -n) }
