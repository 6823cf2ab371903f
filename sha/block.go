package sha

import (
	"iter"
	"math/bits"
)

const (
	blockBytes  = 64
	lengthBytes = 8
)

// initial is the state before the first block: the first bits behind the point of the square roots of the first primes.
var initial = [8]uint32{
	0x6a09e667, 0xbb67ae85, 0x3c6ef372, 0xa54ff53a, 0x510e527f, 0x9b05688c, 0x1f83d9ab, 0x5be0cd19,
}

// constants are added to a block's words: the first bits behind the point of the cube roots of the first primes.
var constants = [64]uint32{
	0x428a2f98, 0x71374491, 0xb5c0fbcf, 0xe9b5dba5, 0x3956c25b, 0x59f111f1, 0x923f82a4, 0xab1c5ed5,
	0xd807aa98, 0x12835b01, 0x243185be, 0x550c7dc3, 0x72be5d74, 0x80deb1fe, 0x9bdc06a7, 0xc19bf174,
	0xe49b69c1, 0xefbe4786, 0x0fc19dc6, 0x240ca1cc, 0x2de92c6f, 0x4a7484aa, 0x5cb0a9dc, 0x76f988da,
	0x983e5152, 0xa831c66d, 0xb00327c8, 0xbf597fc7, 0xc6e00bf3, 0xd5a79147, 0x06ca6351, 0x14292967,
	0x27b70a85, 0x2e1b2138, 0x4d2c6dfc, 0x53380d13, 0x650a7354, 0x766a0abb, 0x81c2c92e, 0x92722c85,
	0xa2bfe8a1, 0xa81a664b, 0xc24b8b70, 0xc76c51a3, 0xd192e819, 0xd6990624, 0xf40e3585, 0x106aa070,
	0x19a4c116, 0x1e376c08, 0x2748774c, 0x34b0bcb5, 0x391c0cb3, 0x4ed8aa4a, 0x5b9cca4f, 0x682e6ff3,
	0x748f82ee, 0x78a5636f, 0x84c87814, 0x8cc70208, 0x90befffa, 0xa4506ceb, 0xbef9a3f7, 0xc67178f2,
}

// blocks yields the whole blocks of bytes.
func blocks(b []byte) iter.Seq[[]byte] {
	return func(yield func([]byte) bool) {
		for end := blockBytes; end <= len(b); end += blockBytes {
			if !yield(b[end-blockBytes : end]) {
				return
			}
		}
	}
}

// next returns the state after a block.
func next(state [8]uint32, block []byte) [8]uint32 {
	words := schedule(block)
	a, b, c, d := state[0], state[1], state[2], state[3]
	e, f, g, h := state[4], state[5], state[6], state[7]
	for i := range 64 {
		x := h + (right(e, 6) ^ right(e, 11) ^ right(e, 25)) + (e&f ^ ^e&g) + constants[i] + words[i]
		y := (right(a, 2) ^ right(a, 13) ^ right(a, 22)) + (a&b ^ a&c ^ b&c)
		h, g, f, e, d, c, b, a = g, f, e, d+x, c, b, a, x+y
	}
	for i, word := range [8]uint32{a, b, c, d, e, f, g, h} {
		state[i] += word
	}
	return state
}

// schedule returns the words that a block puts in, one for each of the constants.
func schedule(block []byte) [64]uint32 {
	var w [64]uint32
	for i, x := range block {
		w[i/4] = w[i/4]<<8 | uint32(x)
	}
	for i := 16; i < 64; i++ {
		early, late := w[i-15], w[i-2]
		w[i] = w[i-16] + w[i-7] + (right(early, 7) ^ right(early, 18) ^ early>>3) + (right(late, 17) ^ right(late, 19) ^ late>>10)
	}
	return w
}

// right rotates a word to the right.
func right(word uint32, n int) uint32 { return bits.RotateLeft32(word, -n) }

// digest returns the bytes of a state.
func digest(state [8]uint32) [32]byte {
	var d [32]byte
	for i := range d {
		d[i] = byte(state[i/4] >> (24 - 8*(i%4)))
	}
	return d
}
