package chip

import (
	"lintel/api"
	"lintel/fuses"
)

// Poke writes a byte of the flash (P10).
func (c *Chip) Poke(address, value int) api.Errno {
	switch {
	case address < 0 || address >= len(c.flash) || value < 0 || value > 0xff:
		return api.ErrArg
	case c.down():
		return api.ErrDown
	case address/api.SlotSize == c.locks.slot:
		return api.ErrLocked
	}
	c.flash[address] = byte(value)
	return api.OK
}

// Burn sets bits of a word of fuses (P10). The places of keys are locked whatever runs: an image may let the state and the least version go on, but never vouch for a key.
func (c *Chip) Burn(word, bits int) api.Errno {
	switch {
	case word < 0 || word >= len(c.words) || !fuses.IsWord(bits):
		return api.ErrArg
	case c.down():
		return api.ErrDown
	case word >= fuses.PlacesAt:
		return api.ErrLocked
	}
	c.words[word] |= bits
	return api.OK
}

// down tells whether nothing runs: what runs has its locks.
func (c *Chip) down() bool { return !c.locks.on }
