// Package chip: a flash, fuses, a few bytes that are kept, and the runs by which a chip starts.
package chip

import (
	"math"
	"slices"

	"lintel/api"
	"lintel/fuses"
)

// Chip is a flash, fuses, a few bytes that are kept, and what is locked.
type Chip struct {
	flash []byte
	words [api.Words]int
	kept  [api.Kept]byte
	locks locks
}

// locks: what was jumped into stays locked for as long as it runs, so that a chip without locks is down.
type locks struct {
	on   bool
	slot int
}

// New makes a chip that is down (P8).
func New(flash string, words []int, kept string) (*Chip, api.Errno) {
	if !fuses.AreWords(words) || len(kept) != api.Kept {
		return nil, api.ErrArg
	}
	c := &Chip{flash: []byte(flash)}
	copy(c.words[:], words)
	copy(c.kept[:], kept)
	return c, api.OK
}

// Boot starts the chip; runs are cut where the gaps say so (P9).
func (c *Chip) Boot(gaps []int) api.Outcome {
	c.unlock()
	for i, gap := range gaps {
		r := run{chip: c, room: gap}
		if end := r.do(); !r.cut {
			end.Runs = i + 1
			return end
		}
	}
	last := run{chip: c, room: math.MaxInt} // no run notes as much as that
	end := last.do()
	end.Runs = len(gaps) + 1
	return end
}

// Reset ends what runs (P10).
func (c *Chip) Reset() { c.unlock() }

// Flash tells the flash as it is now (P8).
func (c *Chip) Flash() string { return string(c.flash) }

// Words tells the fuses as they are now (P8).
func (c *Chip) Words() []int { return slices.Clone(c.words[:]) }

// Kept tells the bytes that are kept, as they are now (P8).
func (c *Chip) Kept() string { return string(c.kept[:]) }

// keep takes a byte among those that are kept: behind the first, which counts them, they go round.
func (c *Chip) keep(b byte) {
	count := c.kept[0]
	c.kept[1+count%(api.Kept-1)] = b
	c.kept[0] = count + 1
}

// bytesOf is what stands in a slot: all its bytes, or as many as the flash has.
func (c *Chip) bytesOf(slot int) string {
	from := min(slot*api.SlotSize, len(c.flash))
	to := min(from+api.SlotSize, len(c.flash))
	return string(c.flash[from:to])
}

func (c *Chip) lock(slot int) { c.locks = locks{on: true, slot: slot} }

func (c *Chip) unlock() { c.locks = locks{} }
