package digest

import "amnesia/api"

// size is the bytes of a block.
const size = 64

// state is the eight words that the blocks are mixed into, one behind the other.
type state [8]uint32

// first: the state ahead of all blocks.
func first() state {
	return state{
		0x6a09e667, 0xbb67ae85, 0x3c6ef372, 0xa54ff53a, 0x510e527f, 0x9b05688c, 0x1f83d9ab, 0x5be0cd19,
	}
}

// mix goes through a block.
func (s *state) mix(block []byte) {
	w, k := wordsOf(block), roundWords()
	a, b, c, d, e, f, g, h := s[0], s[1], s[2], s[3], s[4], s[5], s[6], s[7]
	for i := range 64 {
		t1 := h + (ror(e, 6) ^ ror(e, 11) ^ ror(e, 25)) + (e&f ^ ^e&g) + k[i] + w[i]
		t2 := (ror(a, 2) ^ ror(a, 13) ^ ror(a, 22)) + (a&b ^ a&c ^ b&c)
		h, g, f, e = g, f, e, d+t1
		d, c, b, a = c, b, a, t1+t2
	}
	for i, x := range [8]uint32{a, b, c, d, e, f, g, h} {
		s[i] += x
	}
}

// wordsOf: a block's sixteen words, and those that follow from them, one for each round.
func wordsOf(block []byte) [64]uint32 {
	var w [64]uint32
	for i := range size {
		w[i/4] = w[i/4]<<8 | uint32(block[i])
	}
	for i := 16; i < 64; i++ {
		x, y := w[i-15], w[i-2]
		s0 := ror(x, 7) ^ ror(x, 18) ^ x>>3
		s1 := ror(y, 17) ^ ror(y, 19) ^ y>>10
		w[i] = w[i-16] + s0 + w[i-7] + s1
	}
	return w
}

// ror: x turned right by n bits, n being 1 to 31.
func ror(x uint32, n uint) uint32 { return x>>n | x<<(32-n) }

// hash: the words' bytes, of each the highest first.
func (s *state) hash() api.Hash {
	var h api.Hash
	for i := range h {
		h[i] = byte(s[i/4] >> (24 - 8*(i%4)))
	}
	return h
}

// roundWords: the k, one for each round: the first 32 bits behind the point of the cube roots of the first 64 primes.
func roundWords() [64]uint32 {
	return [64]uint32{
		0x428a2f98, 0x71374491, 0xb5c0fbcf, 0xe9b5dba5, 0x3956c25b, 0x59f111f1, 0x923f82a4, 0xab1c5ed5,
		0xd807aa98, 0x12835b01, 0x243185be, 0x550c7dc3, 0x72be5d74, 0x80deb1fe, 0x9bdc06a7, 0xc19bf174,
		0xe49b69c1, 0xefbe4786, 0x0fc19dc6, 0x240ca1cc, 0x2de92c6f, 0x4a7484aa, 0x5cb0a9dc, 0x76f988da,
		0x983e5152, 0xa831c66d, 0xb00327c8, 0xbf597fc7, 0xc6e00bf3, 0xd5a79147, 0x06ca6351, 0x14292967,
		0x27b70a85, 0x2e1b2138, 0x4d2c6dfc, 0x53380d13, 0x650a7354, 0x766a0abb, 0x81c2c92e, 0x92722c85,
		0xa2bfe8a1, 0xa81a664b, 0xc24b8b70, 0xc76c51a3, 0xd192e819, 0xd6990624, 0xf40e3585, 0x106aa070,
		0x19a4c116, 0x1e376c08, 0x2748774c, 0x34b0bcb5, 0x391c0cb3, 0x4ed8aa4a, 0x5b9cca4f, 0x682e6ff3,
		0x748f82ee, 0x78a5636f, 0x84c87814, 0x8cc70208, 0x90befffa, 0xa4506ceb, 0xbef9a3f7, 0xc67178f2,
	}
}
