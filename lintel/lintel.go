// Package lintel: the first step of a chip's start: see DOC.md.
package lintel

import (
	"lintel/api"
	"lintel/chip"
	"lintel/digest"
	"lintel/fuses"
	"lintel/image"
	"lintel/verify"
)

// Sha is the hash of some bytes (P3).
func Sha(b string) string { return digest.Of(b) }

// Hash takes bytes piece by piece.
type Hash struct{ pieces digest.Digest }

// NewHash begins with none (P3).
func NewHash() *Hash { return &Hash{pieces: digest.New()} }

// Write takes a piece (P3).
func (h *Hash) Write(piece string) { h.pieces.Write(piece) }

// Sum is the hash of all pieces so far (P3).
func (h *Hash) Sum() string { return h.pieces.Sum() }

// Verify tells whether a signature is one of a message by a key (P4).
func Verify(key string, message string, signature string) api.Errno {
	return verify.Signature(key, message, signature)
}

// Fuses tells what fuses say (P5).
func Fuses(words []int) (api.Fuses, api.Errno) { return fuses.Read(words) }

// Head tells what an image's head says (P6).
func Head(slot string) (api.Head, api.Errno) { return image.Head(slot) }

// Check tells whether an image may be started (P7).
func Check(slot string, f api.Fuses) (int, api.Errno) { return image.Check(slot, f) }

// Chip is a flash, fuses, and a few bytes that are kept.
type Chip struct{ inner *chip.Chip }

// New makes a chip (P8).
func New(flash string, words []int, kept string) (*Chip, api.Errno) {
	inner, e := chip.New(flash, words, kept)
	if e != api.OK {
		return nil, e
	}
	return &Chip{inner: inner}, api.OK
}

// Boot starts it; runs are cut where the numbers say so (P9).
func (c *Chip) Boot(gaps []int) api.Outcome { return c.inner.Boot(gaps) }

// Poke writes a byte of the flash (P10).
func (c *Chip) Poke(address int, value int) api.Errno { return c.inner.Poke(address, value) }

// Burn sets bits of a word of fuses (P10).
func (c *Chip) Burn(word int, bits int) api.Errno { return c.inner.Burn(word, bits) }

// Reset ends what runs (P10).
func (c *Chip) Reset() { c.inner.Reset() }

// Flash tells the flash (P8).
func (c *Chip) Flash() string { return c.inner.Flash() }

// Words tells the fuses (P8).
func (c *Chip) Words() []int { return c.inner.Words() }

// Kept tells the bytes that are kept (P8).
func (c *Chip) Kept() string { return c.inner.Kept() }
