// Package digest: the hash (SHA-256), of whole texts or piece by piece.
package digest

import (
	"math/bits"
	"strings"

	"lintel/octets"
)

// Size is how many bytes a hash has.
const Size = 32

const blockSize = 64

// The first 32 bits behind the point of the cube roots of the first 64 primes.
var roots = [64]uint32{
	0x428a2f98, 0x71374491, 0xb5c0fbcf, 0xe9b5dba5, 0x3956c25b, 0x59f111f1, 0x923f82a4, 0xab1c5ed5,
	0xd807aa98, 0x12835b01, 0x243185be, 0x550c7dc3, 0x72be5d74, 0x80deb1fe, 0x9bdc06a7, 0xc19bf174,
	0xe49b69c1, 0xefbe4786, 0x0fc19dc6, 0x240ca1cc, 0x2de92c6f, 0x4a7484aa, 0x5cb0a9dc, 0x76f988da,
	0x983e5152, 0xa831c66d, 0xb00327c8, 0xbf597fc7, 0xc6e00bf3, 0xd5a79147, 0x06ca6351, 0x14292967,
	0x27b70a85, 0x2e1b2138, 0x4d2c6dfc, 0x53380d13, 0x650a7354, 0x766a0abb, 0x81c2c92e, 0x92722c85,
	0xa2bfe8a1, 0xa81a664b, 0xc24b8b70, 0xc76c51a3, 0xd192e819, 0xd6990624, 0xf40e3585, 0x106aa070,
	0x19a4c116, 0x1e376c08, 0x2748774c, 0x34b0bcb5, 0x391c0cb3, 0x4ed8aa4a, 0x5b9cca4f, 0x682e6ff3,
	0x748f82ee, 0x78a5636f, 0x84c87814, 0x8cc70208, 0x90befffa, 0xa4506ceb, 0xbef9a3f7, 0xc67178f2,
}

// Digest takes bytes piece by piece. It is a plain value: a copy goes its own way.
type Digest struct {
	words  [8]uint32
	block  [blockSize]byte // its first length % blockSize bytes wait for more
	length uint64
}

// New begins with no bytes: the words are the first 32 bits behind the point of the square roots of the first eight primes.
func New() Digest {
	return Digest{words: [8]uint32{
		0x6a09e667, 0xbb67ae85, 0x3c6ef372, 0xa54ff53a, 0x510e527f, 0x9b05688c, 0x1f83d9ab, 0x5be0cd19,
	}}
}

// Of is the hash of some pieces, one behind the other.
func Of(pieces ...string) string {
	d := New()
	for _, piece := range pieces {
		d.Write(piece)
	}
	return d.Sum()
}

// Write takes a piece.
func (d *Digest) Write(piece string) {
	held := int(d.length % blockSize)
	d.length += uint64(len(piece))
	for len(piece) > 0 {
		n := copy(d.block[held:], piece)
		piece = piece[n:]
		held += n
		if held == blockSize {
			d.words = mixed(d.words, d.block)
			held = 0
		}
	}
}

// Sum is the hash of all pieces so far. It pads a copy, so that more pieces may come behind.
func (d Digest) Sum() string {
	length := octets.U64(8 * d.length)
	held := int(d.length % blockSize)
	noughts := (2*blockSize - 1 - len(length) - held) % blockSize
	d.Write("\x80" + strings.Repeat("\x00", noughts) + length)
	sum := make([]byte, Size)
	for i := range sum {
		sum[i] = byte(d.words[i/4] >> (24 - 8*(i%4)))
	}
	return string(sum)
}

// mixed is what a full block makes of the words.
func mixed(words [8]uint32, block [blockSize]byte) [8]uint32 {
	w := schedule(block)
	a, b, c, d, e, f, g, h := words[0], words[1], words[2], words[3], words[4], words[5], words[6], words[7]
	for i := range w {
		t := h + turned(e, 6, 11, 25) + ((e & f) ^ (^e & g)) + roots[i] + w[i]
		u := turned(a, 2, 13, 22) + ((a & b) ^ (a & c) ^ (b & c))
		h, g, f, e, d, c, b, a = g, f, e, d+t, c, b, a, t+u
	}
	for i, grown := range [8]uint32{a, b, c, d, e, f, g, h} {
		words[i] += grown
	}
	return words
}

// schedule spreads a block's 16 words over 64.
func schedule(block [blockSize]byte) [64]uint32 {
	var w [64]uint32
	for i := range 16 {
		w[i] = uint32(octets.Number(string(block[4*i : 4*i+4])))
	}
	for i := 16; i < len(w); i++ {
		w[i] = w[i-16] + shifted(w[i-15], 7, 18, 3) + w[i-7] + shifted(w[i-2], 17, 19, 10)
	}
	return w
}

func turned(x uint32, a, b, c int) uint32 {
	return bits.RotateLeft32(x, -a) ^ bits.RotateLeft32(x, -b) ^ bits.RotateLeft32(x, -c)
}

func shifted(x uint32, a, b, c int) uint32 {
	return bits.RotateLeft32(x, -a) ^ bits.RotateLeft32(x, -b) ^ x>>c
}
