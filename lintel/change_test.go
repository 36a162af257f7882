package lintel_test

import (
	"fmt"
	"math"
	"slices"
	"strings"
	"testing"
	"unsafe"

	"lintel/api"
	"lintel/lintel"
)

// pokeIs: Poke answers so, and changes the one byte, or nothing.
func pokeIs(t *testing.T, what string, c *lintel.Chip, address, value int, want api.Errno) {
	t.Helper()
	flash, words, kept := c.Flash(), c.Words(), c.Kept()
	what = fmt.Sprintf("%s, Poke(%d, %d)", what, address, value)
	if got := c.Poke(address, value); got != want {
		t.Errorf("%s = %d, want %d", what, got, want)
	}
	if want == api.OK {
		flash = put(flash, address, u8(value))
	}
	chipTells(t, what, c, flash, words, kept)
}

// burnIs: Burn answers so, and sets bits of the one word, or nothing.
func burnIs(t *testing.T, what string, c *lintel.Chip, word, bits int, want api.Errno) {
	t.Helper()
	flash, words, kept := c.Flash(), c.Words(), c.Kept()
	what = fmt.Sprintf("%s, Burn(%d, %x)", what, word, bits)
	if got := c.Burn(word, bits); got != want {
		t.Errorf("%s = %d, want %d", what, got, want)
	}
	if want == api.OK {
		words[word] |= bits
	}
	chipTells(t, what, c, flash, words, kept)
}

// running: a chip that jumped into a slot, with some bytes behind both.
func (b board) running(t *testing.T, slot int, behind string) *lintel.Chip {
	t.Helper()
	right := b.slots[api.OK]
	first := []string{right, b.slots[api.ErrSignature]}[slot]
	c := newChip(t, first+right+behind, b.words(api.Prod), someKept)
	jumpsInto(t, c, slot)
	return c
}

func jumpsInto(t *testing.T, c *lintel.Chip, slot int) {
	t.Helper()
	if end := c.Boot(nil); end != (api.Outcome{Runs: 1, Jump: true, Slot: slot, Entry: boardEntry}) {
		t.Fatalf("no jump into the slot %d: %+v", slot, end)
	}
}

// downChips: chips that are down, in each way that there is to it.
func (b board) downChips(t *testing.T) map[string]*lintel.Chip {
	right := b.slots[api.OK]
	chips := map[string]*lintel.Chip{"new": newChip(t, right+right, b.words(api.Prod), noughts)}
	for i, s := range b.setups() {
		if !s.end.Jump {
			c := newChip(t, s.flash+strings.Repeat("\x00", 99), s.words, noughts)
			c.Boot(make([]int, i%3))
			chips[fmt.Sprint("that stopped, ", i)] = c
		}
	}
	for slot := range 2 {
		reset := b.running(t, slot, "behind")
		reset.Reset()
		chips[fmt.Sprint("that was reset, from ", slot)] = reset
		twice := b.running(t, slot, "")
		twice.Reset()
		twice.Reset()
		chips[fmt.Sprint("that was reset twice, from ", slot)] = twice
		for _, gaps := range [][]int{nil, {0}, {1, -1}} {
			fuses := b.running(t, slot, "")
			fuses.Burn(1, 1<<15)
			fuses.Boot(gaps)
			chips[fmt.Sprint("whose state was spoilt, from ", slot, gaps)] = fuses
			old := b.running(t, slot, "behind")
			old.Burn(2, 63)
			old.Burn(4, 63)
			old.Boot(gaps)
			chips[fmt.Sprint("whose images became too old, from ", slot, gaps)] = old
		}
	}
	return chips
}

// outside: numbers that are not 0 to the last one.
func outside(last int) []int {
	return []int{math.MinInt, math.MinInt32, -last - 1, -1, last + 1, last + 2, 2*last + 2, math.MaxInt32, 1 << 32, 1 << 62, math.MaxInt}
}

func TestP10ChipsThatAreDown(t *testing.T) {
	for name, c := range newBoard().downChips(t) {
		last := len(c.Flash()) - 1
		for _, address := range []int{0, 1, 98, last - 1, last} {
			for _, value := range []int{0, 255} {
				pokeIs(t, name, c, address, value, api.ErrDown)
			}
		}
		for _, word := range []int{0, 1, 2, 3, 4, 5, 6, 83, 84} {
			for _, bits := range []int{0, 1, 65535} {
				burnIs(t, name, c, word, bits, api.ErrDown)
			}
		}
		wrongArguments(t, name, c)
	}
}

// wrongArguments: ErrArg, whatever else holds.
func wrongArguments(t *testing.T, name string, c *lintel.Chip) {
	t.Helper()
	last := len(c.Flash()) - 1
	for _, address := range outside(last) {
		for _, value := range []int{0, 255, -1, 256} {
			pokeIs(t, name, c, address, value, api.ErrArg)
		}
	}
	for _, address := range []int{0, last, last / 2} {
		for _, value := range outside(255) {
			pokeIs(t, name, c, address, value, api.ErrArg)
		}
	}
	for _, word := range outside(84) {
		for _, bits := range []int{0, 65535, -1, 65536} {
			burnIs(t, name, c, word, bits, api.ErrArg)
		}
	}
	for _, word := range []int{0, 4, 5, 84} {
		for _, bits := range outside(65535) {
			burnIs(t, name, c, word, bits, api.ErrArg)
		}
	}
}

func TestP10WrongArgumentsOfWhatRuns(t *testing.T) {
	b := newBoard()
	for slot := range 2 {
		for _, behind := range []string{"", "behind", strings.Repeat("more", 4096)} {
			c := b.running(t, slot, behind)
			wrongArguments(t, "a chip that runs", c)
			pokeIs(t, "and still runs", c, 8192*(1-slot), 1, api.OK)
			pokeIs(t, "and still runs", c, 8192*slot, 1, api.ErrLocked)
		}
	}
}

func TestP10EachAddress(t *testing.T) {
	b := newBoard()
	for slot := range 2 {
		c := b.running(t, slot, allBytes(3*8192+5))
		flash, words, kept := []byte(c.Flash()), c.Words(), c.Kept()
		for address, was := range flash {
			want := api.OK
			if address >= 8192*slot && address <= 8192*slot+8191 {
				want = api.ErrLocked
			} else {
				flash[address] = was ^ 255
			}
			if got := c.Poke(address, int(was^255)); got != want {
				t.Errorf("the slot %d runs: Poke at %d = %d, want %d", slot, address, got, want)
			}
		}
		chipTells(t, "all was poked", c, string(flash), words, kept)
	}
}

func TestP10EdgesOfTheSlots(t *testing.T) {
	b := newBoard()
	for slot := range 2 {
		c := b.running(t, slot, "behind")
		for _, address := range []int{0, 1, 4095, 8190, 8191, 8192, 8193, 16382, 16383, 16384, 16385, 16389} {
			want := api.OK
			if address/8192 == slot {
				want = api.ErrLocked
			}
			for _, value := range []int{0, 1, 127, 128, 255} {
				pokeIs(t, fmt.Sprint("the slot ", slot, " runs"), c, address, value, want)
			}
		}
	}
}

func TestP10EachValue(t *testing.T) {
	b := newBoard()
	for slot := range 2 {
		c := b.running(t, slot, "behind")
		for value := range 256 {
			pokeIs(t, "another slot", c, 8192*(1-slot)+77, value, api.OK)
			pokeIs(t, "behind both", c, 16384, 255-value, api.OK)
			pokeIs(t, "the slot that runs", c, 8192*slot+77, value, api.ErrLocked)
			pokeIs(t, "what is there already", c, 16384, 255-value, api.OK)
		}
	}
}

// A poke of what stands there already is one too: it is refused all the same.
func TestP10LocksDoNotLookAtTheValue(t *testing.T) {
	b := newBoard()
	for slot := range 2 {
		c := b.running(t, slot, "")
		for _, address := range []int{8192 * slot, 8192*slot + 8191} {
			pokeIs(t, "the same byte", c, address, int(c.Flash()[address]), api.ErrLocked)
		}
	}
}

func TestP10LengthsOfFlashes(t *testing.T) {
	b := newBoard()
	right := b.slots[api.OK]
	for _, n := range []int{0, 1, 78, 8191} {
		c := newChip(t, right[:n], b.words(api.Prod), noughts)
		bootIs(t, "too short", c, nil, "\x01\x13\x23\x04", stopped(api.ErrShort))
		pokeIs(t, "too short", c, n, 0, api.ErrArg)
		pokeIs(t, "too short", c, -1, 0, api.ErrArg)
		if n > 0 {
			pokeIs(t, "too short", c, 0, 0, api.ErrDown)
			pokeIs(t, "too short", c, n-1, 0, api.ErrDown)
		}
		burnIs(t, "too short", c, 0, 0, api.ErrDown)
	}
	for _, n := range []int{8192, 8193, 16383, 16384, 16385, 24576, 50000} {
		c := newChip(t, right+allBytes(n-8192), b.words(api.Test), noughts)
		jumpsInto(t, c, 0)
		what := fmt.Sprint(n, " bytes")
		pokeIs(t, what, c, n, 0, api.ErrArg)
		pokeIs(t, what, c, 8191, 0, api.ErrLocked)
		if n > 8192 {
			pokeIs(t, what, c, n-1, 3, api.OK)
			pokeIs(t, what, c, 8192, 4, api.OK)
		}
	}
}

func TestP10EachBitOfEachWord(t *testing.T) {
	b := newBoard()
	for slot := range 2 {
		c := b.running(t, slot, "")
		for word := range 85 {
			want := api.OK
			if word >= 5 {
				want = api.ErrLocked
			}
			for _, bits := range []int{0, c.Words()[word], 1, 1 << 15, 1 << 7, 0x5a5a, c.Words()[word], 65535, 0} {
				burnIs(t, fmt.Sprint("the slot ", slot, " runs"), c, word, bits, want)
			}
		}
	}
	for bit := range 16 {
		c := b.running(t, bit%2, "")
		for word := range 85 {
			want := api.OK
			if word > 4 {
				want = api.ErrLocked
			}
			burnIs(t, "one bit", c, word, 1<<bit, want)
		}
	}
}

// Bits are only ever set: those that were there stay.
func TestP10BurntBitsStay(t *testing.T) {
	b := newBoard()
	c := b.running(t, 0, "")
	all := b.words(api.Prod)
	for _, bits := range []int{1, 2, 0, 0x100, 3, 0x8000, 0x7fff} {
		for word := range 5 {
			burnIs(t, "again and again", c, word, bits, api.OK)
			all[word] |= bits
		}
	}
	c.Reset()
	c.Boot(nil)
	if !slices.Equal(c.Words(), all) {
		t.Errorf("behind a reset and a start the words are %v, want %v", c.Words(), all)
	}
}

func TestP10ResetChangesNothingElse(t *testing.T) {
	b := newBoard()
	chips := b.downChips(t)
	chips["running A"], chips["running B"] = b.running(t, 0, ""), b.running(t, 1, "behind")
	for name, c := range chips {
		flash, words, kept := c.Flash(), c.Words(), c.Kept()
		for range 3 {
			c.Reset()
			chipTells(t, name+", reset", c, flash, words, kept)
			pokeIs(t, name+", reset", c, 0, 0, api.ErrDown)
			burnIs(t, name+", reset", c, 0, 0, api.ErrDown)
		}
		whole, end := expected(flash, words)
		bootIs(t, name+", reset", c, []int{1}, whole, end)
	}
}

// The locks are those of the last start, whatever was locked ahead of it.
func TestP10StartedAgainElsewhere(t *testing.T) {
	b := newBoard()
	right := b.slots[api.OK]
	for _, reset := range []bool{false, true} {
		c := b.running(t, 1, "")
		pokeAll(t, c, 0, right)
		if reset {
			c.Reset()
		}
		jumpsInto(t, c, 0)
		pokeIs(t, "A runs now", c, 8191, 0, api.ErrLocked)
		pokeIs(t, "B ran", c, 8192, 'K', api.OK)
		pokeIs(t, "B ran", c, 8192, 'L', api.OK)
		for range 3 {
			jumpsInto(t, c, 0)
			pokeIs(t, "A runs again", c, 0, 'K', api.ErrLocked)
			pokeIs(t, "B does not", c, 16383, 1, api.OK)
		}
	}
}

// pokeAll: bytes are poked, one behind the other.
func pokeAll(t *testing.T, c *lintel.Chip, at int, b string) {
	t.Helper()
	for i := range len(b) {
		if e := c.Poke(at+i, int(b[i])); e != api.OK {
			t.Fatalf("Poke at %d: %d", at+i, e)
		}
	}
}

// Gaps leave no lock behind, nor do they take one away.
func TestP10LocksBehindGaps(t *testing.T) {
	b := newBoard()
	for slot := range 2 {
		for gap := -1; gap < 6; gap++ {
			for n := range 4 {
				c := b.running(t, slot, "behind")
				if end := c.Boot(slices.Repeat([]int{gap}, n)); !end.Jump || end.Slot != slot {
					t.Fatalf("%d gaps of %d: %+v", n, gap, end)
				}
				what := fmt.Sprintf("%d gaps of %d, the slot %d", n, gap, slot)
				pokeIs(t, what, c, 8192*slot, 0, api.ErrLocked)
				pokeIs(t, what, c, 8192*(1-slot), 0, api.OK)
				pokeIs(t, what, c, 16385, 0, api.OK)
				burnIs(t, what, c, 4, 1, api.OK)
				burnIs(t, what, c, 5, 1, api.ErrLocked)
			}
		}
	}
}

func TestP2PokeAndBurnKeepToTheirChip(t *testing.T) {
	b := newBoard()
	right, words := b.slots[api.OK], b.words(api.Prod)
	room := []byte(right + right)
	flash := unsafe.String(&room[0], len(room))
	one, other := newChip(t, flash, words, noughts), newChip(t, flash, words, noughts)
	one.Boot(nil)
	other.Boot(nil)
	wasFlash, wasWords := one.Flash(), one.Words()
	pokeIs(t, "one of two", one, 9000, 77, api.OK)
	burnIs(t, "one of two", one, 3, 65535, api.OK)
	if string(room) != right+right || !slices.Equal(words, b.words(api.Prod)) {
		t.Error("what was handed in is another one")
	}
	if wasFlash != right+right || !slices.Equal(wasWords, b.words(api.Prod)) {
		t.Error("what was told ahead of it is another one")
	}
	chipTells(t, "the other one", other, right+right, words, "\x03\x01\x10\x09"+noughts[4:])
	one.Reset()
	pokeIs(t, "the other one still runs", other, 9000, 1, api.OK)
	one.Words()[0] = 0
	if one.Words()[0] != api.Prod {
		t.Error("who writes into an answer burns a fuse")
	}
}
