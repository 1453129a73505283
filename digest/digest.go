// Package digest: the digest of a text, SHA-256 as FIPS 180-4 says it.
package digest

import (
	"math/bits"
	"strings"
)

const (
	blockSize  = 64
	lengthSize = 8 // bytes at the end of the last block, which tell the text's length
	hexDigits  = "0123456789abcdef"
	digits     = 64 // of a digest
)

// state is the eight words that each block changes.
type state [8]uint32

// roundWords: the first 32 bits behind the point of the cube roots of the first 64 primes (FIPS 180-4, 4.2.2).
var roundWords = [blockSize]uint32{
	0x428a2f98, 0x71374491, 0xb5c0fbcf, 0xe9b5dba5, 0x3956c25b, 0x59f111f1, 0x923f82a4, 0xab1c5ed5,
	0xd807aa98, 0x12835b01, 0x243185be, 0x550c7dc3, 0x72be5d74, 0x80deb1fe, 0x9bdc06a7, 0xc19bf174,
	0xe49b69c1, 0xefbe4786, 0x0fc19dc6, 0x240ca1cc, 0x2de92c6f, 0x4a7484aa, 0x5cb0a9dc, 0x76f988da,
	0x983e5152, 0xa831c66d, 0xb00327c8, 0xbf597fc7, 0xc6e00bf3, 0xd5a79147, 0x06ca6351, 0x14292967,
	0x27b70a85, 0x2e1b2138, 0x4d2c6dfc, 0x53380d13, 0x650a7354, 0x766a0abb, 0x81c2c92e, 0x92722c85,
	0xa2bfe8a1, 0xa81a664b, 0xc24b8b70, 0xc76c51a3, 0xd192e819, 0xd6990624, 0xf40e3585, 0x106aa070,
	0x19a4c116, 0x1e376c08, 0x2748774c, 0x34b0bcb5, 0x391c0cb3, 0x4ed8aa4a, 0x5b9cca4f, 0x682e6ff3,
	0x748f82ee, 0x78a5636f, 0x84c87814, 0x8cc70208, 0x90befffa, 0xa4506ceb, 0xbef9a3f7, 0xc67178f2,
}

// Of tells a text's digest: 64 hexadecimal digits, small letters.
func Of(text string) string {
	whole := len(text) - len(text)%blockSize
	s := mixAll(start(), text[:whole])
	// The end is filled up apart, so that a long text is not copied.
	s = mixAll(s, filled(text[whole:], len(text)))
	return hexadecimal(s)
}

// Is tells whether a text may be a digest, by its form.
func Is(text string) bool {
	if len(text) != digits {
		return false
	}
	for i := range len(text) {
		if strings.IndexByte(hexDigits, text[i]) < 0 {
			return false
		}
	}
	return true
}

// start: the first 32 bits behind the point of the square roots of the first eight primes (FIPS 180-4, 5.3.3).
func start() state {
	return state{
		0x6a09e667, 0xbb67ae85, 0x3c6ef372, 0xa54ff53a,
		0x510e527f, 0x9b05688c, 0x1f83d9ab, 0x5be0cd19,
	}
}

// filled makes whole blocks of what is left of a text of so many bytes: a bit behind it, noughts, its length in bits.
func filled(rest string, size int) string {
	noughts := blockSize - (len(rest)+1+lengthSize)%blockSize
	var b strings.Builder
	b.WriteString(rest)
	b.WriteByte(0x80)
	b.WriteString(strings.Repeat("\x00", noughts%blockSize))
	length := uint64(size) * 8
	for i := lengthSize - 1; i >= 0; i-- {
		b.WriteByte(byte(length >> (8 * i)))
	}
	return b.String()
}

func mixAll(s state, blocks string) state {
	for i := 0; i < len(blocks); i += blockSize {
		s = mix(s, blocks[i:i+blockSize])
	}
	return s
}

// mix is what one block does to the state (FIPS 180-4, 6.2.2).
func mix(s state, block string) state {
	words := schedule(block)
	t := s
	for i := range words {
		t = turn(t, words[i]+roundWords[i])
	}
	for i := range s {
		s[i] += t[i]
	}
	return s
}

// schedule makes the 64 words of a block's rounds.
func schedule(block string) [blockSize]uint32 {
	var w [blockSize]uint32
	for i := range 16 {
		w[i] = word(block[4*i : 4*i+4])
	}
	for i := 16; i < blockSize; i++ {
		x, y := w[i-15], w[i-2]
		s0 := bits.RotateLeft32(x, -7) ^ bits.RotateLeft32(x, -18) ^ x>>3
		s1 := bits.RotateLeft32(y, -17) ^ bits.RotateLeft32(y, -19) ^ y>>10
		w[i] = w[i-16] + s0 + w[i-7] + s1
	}
	return w
}

// word reads four bytes, the greatest first.
func word(s string) uint32 {
	return uint32(s[0])<<24 | uint32(s[1])<<16 | uint32(s[2])<<8 | uint32(s[3])
}

// turn is one round, with the sum of its word and its constant.
func turn(s state, add uint32) state {
	a, b, c, d, e, f, g, h := s[0], s[1], s[2], s[3], s[4], s[5], s[6], s[7]
	s1 := bits.RotateLeft32(e, -6) ^ bits.RotateLeft32(e, -11) ^ bits.RotateLeft32(e, -25)
	choice := e&f ^ ^e&g
	t1 := h + s1 + choice + add
	s0 := bits.RotateLeft32(a, -2) ^ bits.RotateLeft32(a, -13) ^ bits.RotateLeft32(a, -22)
	most := a&b ^ a&c ^ b&c
	return state{t1 + s0 + most, a, b, c, d + t1, e, f, g}
}

func hexadecimal(s state) string {
	var b strings.Builder
	for _, w := range s {
		for shift := 28; shift >= 0; shift -= 4 {
			b.WriteByte(hexDigits[w>>shift&15])
		}
	}
	return b.String()
}
