package lintel_test

import (
	"fmt"
	"math/rand"
	"strings"
	"testing"

	"lintel/api"
	"lintel/lintel"
)

// noImage: a slot with none.
var noImage = strings.Repeat("\x00", 8192)

func jumpIs(t *testing.T, what string, c *lintel.Chip, slot, entry int) {
	t.Helper()
	if end := c.Boot(nil); end != (api.Outcome{Runs: 1, Jump: true, Slot: slot, Entry: entry}) {
		t.Errorf("%s: %+v, want a jump into %d at %d", what, end, slot, entry)
	}
}

func stopIs(t *testing.T, what string, c *lintel.Chip, reason api.Errno) {
	t.Helper()
	if end := c.Boot(nil); end != (api.Outcome{Runs: 1, Reason: reason}) {
		t.Errorf("%s: %+v, want the reason %d", what, end, reason)
	}
}

// onlyAt: fuses that vouch for one key, at one place.
func onlyAt(k int, key string, state, least int) []int {
	places := [4]place{}
	for i := range places {
		places[i] = place{api.Off, api.Off, want("none")}
	}
	places[k] = place{api.On, api.Off, want(key)}
	return fuseWords(state, [3]int{1<<least - 1, 1<<least - 1, 1<<least - 1}, places)
}

func TestP11WhatIsSignedIsTaken(t *testing.T) {
	for i, k := range kinds {
		s := newSigner(k, "taken")
		far := bootable()
		far.Entry, far.Version = 296, 16
		for q := range 1 << k.height {
			a, b := s.image(q, bootable()), s.image(1<<k.height-1-q, far)
			words := onlyAt((q+i)%4, s.key(), []int{api.Test, api.Prod}[q%2], q%6)
			what := fmt.Sprintf("%v, the leaf %d", k, q)
			jumpIs(t, what, newChip(t, a, words, someKept), 0, 120)
			jumpIs(t, what+", both", newChip(t, a+b, words, someKept), 0, 120)
			jumpIs(t, what+", both, the other way round", newChip(t, b+a+"behind", words, someKept), 0, 296)
			jumpIs(t, what+", B", newChip(t, noImage+b, words, someKept), 1, 296)
		}
	}
}

func TestP11EachPlaceOfAKey(t *testing.T) {
	s := newSigner(kinds[3], "places")
	slot := s.image(2, bootable())
	for k := range 4 {
		for _, state := range states {
			words := onlyAt(k, s.key(), state, 5)
			c := newChip(t, noImage+slot, words, someKept)
			if state == api.Rma || state == api.Scrap {
				stopIs(t, fmt.Sprintf("the state %04x", state), c, api.ErrState)
				continue
			}
			jumpIs(t, fmt.Sprintf("the place %d, the state %04x", k, state), c, 1, 120)
			for at := 5 + 20*k; at < 25+20*k; at++ {
				burnIs(t, "the place of its own key", c, at, 65535, api.ErrLocked)
			}
		}
	}
}

// What runs may try all that there is: when the chip starts again, it finds the image as it was.
func TestP11WhatRunsIsNotChanged(t *testing.T) {
	b := newBoard()
	for slot := range 2 {
		c := b.running(t, slot, "behind")
		image, keys := c.Flash()[8192*slot:8192*slot+8192], c.Words()[5:]
		for address := -9; address < len(c.Flash())+9; address++ {
			c.Poke(address, 0)
			c.Poke(address, -1)
			c.Poke(address, 300)
		}
		for word := 5; word < 99; word++ {
			c.Burn(word, 65535)
			c.Burn(word-99, 65535)
			c.Burn(word, 65536)
		}
		if c.Flash()[8192*slot:8192*slot+8192] != image || fmt.Sprint(c.Words()[5:]) != fmt.Sprint(keys) {
			t.Errorf("the slot %d, or what vouches for it, was changed by what ran from it", slot)
		}
		jumpIs(t, "all was tried", c, slot, boardEntry)
		c.Reset()
		jumpIs(t, "all was tried, and a reset", c, slot, boardEntry)
	}
}

// Until the next reset, and no longer: from the other slot it can be changed.
func TestP11WhatRanIsChangedFromTheOtherSlot(t *testing.T) {
	b := newBoard()
	c := b.running(t, 1, "")
	pokeIs(t, "B runs", c, 8192, 'K', api.ErrLocked)
	pokeAll(t, c, 0, b.slots[api.OK])
	pokeIs(t, "B runs still", c, 8192, 'K', api.ErrLocked)
	jumpIs(t, "A is right now", c, 0, boardEntry)
	pokeIs(t, "A runs", c, 8192, 'K', api.OK)
	pokeIs(t, "A runs", c, 0, 'K', api.ErrLocked)
	jumpIs(t, "B is gone", c, 0, boardEntry)
}

// Each byte that is signed, spoilt and mended from the other slot.
func TestP11SpoiltImages(t *testing.T) {
	b := newBoard()
	right := b.slots[api.OK]
	end := 310 + len(b.good.sign(0, ""))
	for bit := 0; bit < 8*end; bit += 37 {
		if bit/8 >= 300 && bit/8 < 310 {
			continue
		}
		c := newChip(t, turned(right, bit)+right, b.words(api.Prod), noughts)
		jumpIs(t, fmt.Sprint("the bit ", bit, " of A turned"), c, 1, boardEntry)
		pokeIs(t, "mended", c, bit/8, int(right[bit/8]), api.OK)
		jumpIs(t, fmt.Sprint("the bit ", bit, " of A mended"), c, 0, boardEntry)
		pokeIs(t, "B", c, 8192+bit/8, int(turned(right, bit)[bit/8]), api.OK)
		jumpIs(t, fmt.Sprint("the bit ", bit, " of B turned"), c, 0, boardEntry)
	}
}

func TestP11OlderVersions(t *testing.T) {
	s := newSigner(kinds[3], "older")
	newer := bootable()
	newer.Version, newer.Entry = 7, 124
	flash := s.image(0, bootable()) + s.image(1, newer)
	for least := range 17 {
		for without := range 4 {
			c := newChip(t, flash, onlyAt(1, s.key(), api.Prod, 0), noughts)
			jumpIs(t, "no least version", c, 0, 120)
			for i := range 3 {
				if i != without { // the majority is enough
					burnIs(t, "the least version", c, 2+i, 1<<least-1, api.OK)
				}
			}
			what := fmt.Sprint("at least ", least)
			for range 2 { // it stays so
				switch {
				case least <= 5:
					jumpIs(t, what, c, 0, 120)
				case least <= 7:
					jumpIs(t, what, c, 1, 124)
				default:
					stopIs(t, what, c, api.ErrVersion)
				}
			}
		}
	}
}

// One word of three does not count; two of them with a 0 below a 1 are not right.
func TestP11LeastVersionsBurntAmiss(t *testing.T) {
	b := newBoard()
	for word := 2; word < 5; word++ {
		for bit := 5; bit < 16; bit++ {
			c := b.running(t, 0, "")
			burnIs(t, "one bit too high", c, word, 1<<bit, api.OK)
			jumpIs(t, "one word of three", c, 0, boardEntry)
			burnIs(t, "one bit too high, again", c, 2+(word-1)%3, 1<<bit, api.OK)
			if bit == 5 {
				stopIs(t, "the next version", c, api.ErrVersion)
			} else {
				stopIs(t, "two words of three", c, api.ErrFuses)
			}
		}
	}
}

func TestP11RevokedKeys(t *testing.T) {
	gone, other := newSigner(kinds[4], "gone"), newSigner(kinds[4], "other")
	flash := gone.image(0, bootable()) + other.image(1, bootable())
	for k := range 4 {
		words := onlyAt(k, gone.key(), api.Prod, 5)
		jumpIs(t, "not revoked", newChip(t, flash, words, noughts), 0, 120)
		words = with(with(words, 7+20*k, api.On), 8+20*k, api.On)
		stopIs(t, "revoked", newChip(t, flash, words, noughts), api.ErrKey)
		at := (k + 1) % 4 * 20
		words = with(with(words, 5+at, api.On), 6+at, api.On)
		for i, word := range wordsOf(want(other.key())) {
			words[9+at+i] = word
		}
		c := newChip(t, flash, words, noughts)
		jumpIs(t, "revoked, with another key", c, 1, 120)
		for word := 5; word < 85; word++ {
			burnIs(t, "a key's place", c, word, 65535, api.ErrLocked)
		}
		jumpIs(t, "revoked for good", c, 1, 120)
	}
}

func TestP11StatesWithABitTurnedOver(t *testing.T) {
	b := newBoard()
	right := b.slots[api.OK]
	for _, state := range []int{api.Test, api.Prod} {
		for bit := range 16 {
			for _, burnt := range [][]int{{0}, {1}, {0, 1}} {
				c := newChip(t, right+right, b.words(state), noughts)
				jumpIs(t, "the state", c, 0, boardEntry)
				for _, word := range burnt {
					burnIs(t, "the state", c, word, 1<<bit, api.OK)
				}
				what := fmt.Sprintf("the state %04x, the bit %d of %v", state, bit, burnt)
				if state>>bit&1 == 1 {
					jumpIs(t, what+", that is set already", c, 0, boardEntry)
				} else {
					stopIs(t, what, c, api.ErrFuses)
					stopIs(t, what+", again", c, api.ErrFuses)
				}
			}
		}
	}
	// No state can be burnt into another one.
	for _, state := range []int{api.Test, api.Prod} {
		for _, other := range states {
			if other != state {
				c := newChip(t, right+right, b.words(state), noughts)
				jumpIs(t, "the state", c, 0, boardEntry)
				burnIs(t, "another state", c, 0, other, api.OK)
				burnIs(t, "another state", c, 1, other, api.OK)
				stopIs(t, "another state", c, api.ErrFuses)
			}
		}
	}
}

// A new image comes into the other slot, and the old one is shut out.
func TestP11AnUpdate(t *testing.T) {
	b := newBoard()
	newer := bootable()
	newer.Version, newer.Entry = 6, 200
	c := b.running(t, 1, "")
	pokeAll(t, c, 0, b.good.image(2, newer))
	jumpIs(t, "the new image", c, 0, 200)
	for word := 2; word < 5; word++ {
		burnIs(t, "the new version", c, word, 63, api.OK)
	}
	jumpIs(t, "the old one is shut out", c, 0, 200)
	pokeAll(t, c, 8192, b.good.image(3, newer))
	c.Reset()
	jumpIs(t, "A goes ahead of B", c, 0, 200)
	d := newChip(t, noImage+c.Flash()[8192:], c.Words(), c.Kept())
	jumpIs(t, "B alone", d, 1, 200)
	d = newChip(t, noImage+b.slots[api.OK], c.Words(), c.Kept())
	stopIs(t, "the old one alone", d, api.ErrVersion)
}

// model: what a chip is to answer, by the words of P10 alone.
type model struct {
	flash []byte
	words []int
	kept  string
	runs  bool
	slot  int
}

func (m *model) poke(address, value int) api.Errno {
	if address < 0 || address > len(m.flash)-1 || value < 0 || value > 255 {
		return api.ErrArg
	}
	if !m.runs {
		return api.ErrDown
	}
	if from := 8192 * m.slot; from <= address && address < from+8192 {
		return api.ErrLocked
	}
	m.flash[address] = byte(value)
	return api.OK
}

func (m *model) burn(word, bits int) api.Errno {
	if word < 0 || word > 84 || bits < 0 || bits > 65535 {
		return api.ErrArg
	}
	if !m.runs {
		return api.ErrDown
	}
	if word > 4 {
		return api.ErrLocked
	}
	m.words[word] |= bits
	return api.OK
}

// somePoke: mostly of a byte of a head, to spoil it or to mend it.
func somePoke(r *rand.Rand, right string, length int) (address, value int) {
	switch r.Intn(5) {
	case 0:
		return r.Intn(length+20) - 10, r.Intn(260) - 2
	case 1:
		return 8191 + 8192*r.Intn(2) + r.Intn(3), r.Intn(256)
	case 2:
		return 8192*r.Intn(2) + r.Intn(78), r.Intn(256)
	}
	at := r.Intn(78)
	return 8192*r.Intn(2) + at, int(right[at])
}

// someBurn: mostly of bits that are set already, so that something still starts.
func someBurn(r *rand.Rand, words []int) (word, bits int) {
	switch r.Intn(8) {
	case 0:
		return []int{-1, 85, r.Intn(85)}[r.Intn(3)], r.Intn(65536)
	case 1:
		return r.Intn(10), []int{-1, 65536, 65535}[r.Intn(3)]
	case 2:
		return 2 + r.Intn(3), 1<<r.Intn(7) - 1
	}
	word = r.Intn(6)
	return word, words[word] & r.Intn(65536)
}

// step: one call on a chip and on its model; which one, and how both answer.
func (m *model) step(t *testing.T, r *rand.Rand, c *lintel.Chip, right string) (call string, got, want api.Errno) {
	t.Helper()
	switch r.Intn(12) {
	case 0:
		c.Reset()
		m.runs = false
		return "Reset", api.OK, api.OK
	case 1, 2:
		whole, end := expected(string(m.flash), m.words)
		bootIs(t, "Boot", c, []int{r.Intn(5), r.Intn(5)}[:r.Intn(3)], whole, end)
		m.kept, m.runs, m.slot = c.Kept(), end.Jump, end.Slot // bootIs has seen to what is kept
		return fmt.Sprint("Boot, jump: ", end.Jump, end.Slot), api.OK, api.OK
	case 3, 4:
		word, bits := someBurn(r, m.words)
		return "Burn", c.Burn(word, bits), m.burn(word, bits)
	}
	address, value := somePoke(r, right, len(m.flash))
	return "Poke", c.Poke(address, value), m.poke(address, value)
}

func TestP11ChipsAgainstAModel(t *testing.T) {
	r := rand.New(rand.NewSource(11))
	b := newBoard()
	right := b.slots[api.OK]
	flashes := []string{right + right, turned(right, 5) + right, right + "part"}
	seen := map[string]int{}
	for range 200 {
		m := &model{flash: []byte(flashes[r.Intn(3)] + "end"), words: b.words(api.Prod), kept: someKept}
		c := newChip(t, string(m.flash), m.words, m.kept)
		for range 60 {
			call, got, want := m.step(t, r, c, right)
			if got != want {
				t.Fatalf("%s = %d, want %d", call, got, want)
			}
			chipTells(t, call, c, string(m.flash), m.words, m.kept)
			seen[fmt.Sprint(call, ": ", want)]++
		}
	}
	for key, n := range seen {
		if n < 50 {
			t.Errorf("too few of %s: %d", key, n)
		}
	}
	if len(seen) != 1+3+4+4 { // Reset; Boot into A, into B, into none; each of four answers to Burn and to Poke
		t.Errorf("too few kinds: %v", seen)
	}
}
