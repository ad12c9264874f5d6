package digest

import (
	"math/bits"

	"hansard/api"
)

// blockSize is the number of bytes that are absorbed at once; lengthSize is that of the number of bits at their end.
const (
	blockSize  = 64
	lengthSize = 8
)

// roundNumbers are the numbers K(0) to K(63).
var roundNumbers = [64]uint32{
	0x428a2f98, 0x71374491, 0xb5c0fbcf, 0xe9b5dba5, 0x3956c25b, 0x59f111f1, 0x923f82a4, 0xab1c5ed5,
	0xd807aa98, 0x12835b01, 0x243185be, 0x550c7dc3, 0x72be5d74, 0x80deb1fe, 0x9bdc06a7, 0xc19bf174,
	0xe49b69c1, 0xefbe4786, 0x0fc19dc6, 0x240ca1cc, 0x2de92c6f, 0x4a7484aa, 0x5cb0a9dc, 0x76f988da,
	0x983e5152, 0xa831c66d, 0xb00327c8, 0xbf597fc7, 0xc6e00bf3, 0xd5a79147, 0x06ca6351, 0x14292967,
	0x27b70a85, 0x2e1b2138, 0x4d2c6dfc, 0x53380d13, 0x650a7354, 0x766a0abb, 0x81c2c92e, 0x92722c85,
	0xa2bfe8a1, 0xa81a664b, 0xc24b8b70, 0xc76c51a3, 0xd192e819, 0xd6990624, 0xf40e3585, 0x106aa070,
	0x19a4c116, 0x1e376c08, 0x2748774c, 0x34b0bcb5, 0x391c0cb3, 0x4ed8aa4a, 0x5b9cca4f, 0x682e6ff3,
	0x748f82ee, 0x78a5636f, 0x84c87814, 0x8cc70208, 0x90befffa, 0xa4506ceb, 0xbef9a3f7, 0xc67178f2,
}

// state is the words h(0) to h(7).
type state [8]uint32

// firstState returns the state before the first block.
func firstState() state {
	return state{0x6a09e667, 0xbb67ae85, 0x3c6ef372, 0xa54ff53a, 0x510e527f, 0x9b05688c, 0x1f83d9ab, 0x5be0cd19}
}

// absorb changes the state by a block.
func (s *state) absorb(block []byte) {
	w := schedule(block)
	a, b, c, d, e, f, g, h := s[0], s[1], s[2], s[3], s[4], s[5], s[6], s[7]
	for t := range 64 {
		p := h + (ror(e, 6) ^ ror(e, 11) ^ ror(e, 25)) + ((e & f) ^ (^e & g)) + roundNumbers[t] + w[t]
		q := (ror(a, 2) ^ ror(a, 13) ^ ror(a, 22)) + ((a & b) ^ (a & c) ^ (b & c))
		h, g, f, e, d, c, b, a = g, f, e, d+p, c, b, a, p+q
	}
	for i, x := range [8]uint32{a, b, c, d, e, f, g, h} {
		s[i] += x
	}
}

// schedule returns the numbers w(0) to w(63) of a block.
func schedule(block []byte) (w [64]uint32) {
	for t := range 16 {
		w[t] = readWord(block[4*t:])
	}
	for t := 16; t < 64; t++ {
		x, y := w[t-15], w[t-2]
		w[t] = w[t-16] + (ror(x, 7) ^ ror(x, 18) ^ x>>3) + w[t-7] + (ror(y, 17) ^ ror(y, 19) ^ y>>10)
	}
	return w
}

func ror(v uint32, n int) uint32 { return bits.RotateLeft32(v, -n) }

// readWord reads a word of four bytes, the most significant one first.
func readWord(b []byte) uint32 {
	return uint32(b[0])<<24 | uint32(b[1])<<16 | uint32(b[2])<<8 | uint32(b[3])
}

// ending returns the last blocks of the padded bytes: the rest, which fills no block, and what follows after size bytes in all.
func ending(rest []byte, size int) []byte {
	var last [2 * blockSize]byte
	end := blockSize
	if len(rest)+1+lengthSize > blockSize {
		end = 2 * blockSize
	}
	last[copy(last[:], rest)] = 0x80
	length := 8 * uint64(size)
	for i := range lengthSize {
		last[end-1-i] = byte(length >> (8 * i))
	}
	return last[:end]
}

// digest returns the bytes of the state.
func (s *state) digest() (d api.Digest) {
	for i := range d {
		d[i] = byte(s[i/4] >> (24 - i%4*8))
	}
	return d
}
