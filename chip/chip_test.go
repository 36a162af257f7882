package chip

import (
	"crypto/sha256"
	"encoding/binary"
	"strings"
	"testing"

	"lintel/api"
)

func hashOf(pieces ...string) string {
	sum := sha256.Sum256([]byte(strings.Join(pieces, "")))
	return string(sum[:])
}

func u16(n int) string { return string(binary.BigEndian.AppendUint16(nil, uint16(n))) }
func u32(n int) string { return string(binary.BigEndian.AppendUint32(nil, uint32(n))) }

// The tests sign with the leaf 0 alone, so that the rest of the tree may be anything.
const (
	id     = "an id of 16 byte"
	beside = "a node of 32 bytes, whatever it "
)

// link: where a chain (of the width 8) stands when it was gone on so often.
func link(i, often int) string {
	y := hashOf("secret", u16(i))
	for j := range often {
		y = hashOf(id, u32(0), u16(i), string([]byte{byte(j)}), y)
	}
	return y
}

func key() string {
	ends := ""
	for i := range 34 {
		ends += link(i, 255)
	}
	node := hashOf(id, u32(4), u16(33410), hashOf(id, u32(0), u16(32896), ends))
	for _, n := range []int{2, 1} {
		node = hashOf(id, u32(n), u16(33667), node, beside)
	}
	return u32(226) + u32(4) + id + node
}

func signature(message string) string {
	salt := hashOf("salt")
	digits := hashOf(id, u32(0), u16(33153), salt, message)
	sum := 0
	for i := range len(digits) {
		sum += 255 - int(digits[i])
	}
	digits += u16(sum)
	out := u32(0) + u32(4) + salt
	for i := range len(digits) {
		out += link(i, int(digits[i]))
	}
	return out + u32(226) + beside + beside
}

// slotWithImage: an image that is entered at its byte 80.
func slotWithImage() string {
	text := "LNTL" + u16(1) + u32(84) + u32(80) + u32(84) + u32(len(signature(""))) + key() + "a body"
	text += signature(text)
	return text + strings.Repeat("\x00", api.SlotSize-len(text))
}

func rightWords() []int {
	words := []int{api.Prod, api.Prod, 1, 1, 1}
	hash := hashOf(key())
	for range api.Keys {
		words = append(words, api.On, api.On, api.Off, api.Off)
		for at := 0; at < len(hash); at += 2 {
			words = append(words, int(binary.BigEndian.Uint16([]byte(hash[at:]))))
		}
	}
	return words
}

// withImages: a chip with an image in B alone, or in both slots.
func withImages(t *testing.T, inA bool) *Chip {
	t.Helper()
	flash := strings.Repeat("\x00", api.SlotSize) + slotWithImage()
	if inA {
		flash = slotWithImage() + slotWithImage()
	}
	c, e := New(flash, rightWords(), strings.Repeat("\x00", api.Kept))
	if e != api.OK {
		t.Fatalf("no chip: %d", e)
	}
	return c
}

func TestNewChipIsDown(t *testing.T) {
	if c := withImages(t, true); c.locks != (locks{}) {
		t.Errorf("a new chip has the locks %+v", c.locks)
	}
}

func TestLocksOfAJump(t *testing.T) {
	for slot, inA := range []bool{true, false} {
		c := withImages(t, inA)
		if end := c.Boot(nil); end != (api.Outcome{Runs: 1, Jump: true, Slot: slot, Entry: 80}) || c.locks != (locks{true, slot}) {
			t.Errorf("slot %d: %+v, the locks %+v", slot, end, c.locks)
		}
	}
}

// Each cut that there is, the one between lock and jump among them.
func TestCutRunLeavesNothingLocked(t *testing.T) {
	for _, inA := range []bool{true, false} {
		whole := 4
		if inA {
			whole = 3
		}
		for room := -1; room <= whole; room++ {
			c := withImages(t, inA)
			r := run{chip: c, room: room}
			end := r.do()
			if room < whole && (!r.cut || end != (api.Outcome{}) || c.locks != (locks{}) || int(c.kept[0]) != max(0, room)) {
				t.Errorf("cut behind %d notes: %v, %+v, locks %+v, %d notes", room, r.cut, end, c.locks, c.kept[0])
			}
			if room == whole && (r.cut || !end.Jump || !c.locks.on) {
				t.Errorf("with room for %d notes: %v, %+v, locks %+v", room, r.cut, end, c.locks)
			}
		}
	}
}

// Behind a cut, even one between lock and jump, nothing may be changed: nothing runs that could ask for it.
func TestCutRunLeavesTheChipDown(t *testing.T) {
	for room := range 3 {
		c := withImages(t, true)
		r := run{chip: c, room: room}
		r.do()
		for _, address := range []int{0, api.SlotSize} {
			if e := c.Poke(address, 0); e != api.ErrDown {
				t.Errorf("cut behind %d notes: Poke at %d = %d", room, address, e)
			}
		}
		for _, word := range []int{4, 5} {
			if e := c.Burn(word, 0); e != api.ErrDown {
				t.Errorf("cut behind %d notes: Burn of the word %d = %d", room, word, e)
			}
		}
	}
}

func TestResetLeavesNothingLocked(t *testing.T) {
	for _, inA := range []bool{true, false} {
		c := withImages(t, inA)
		c.Boot(nil)
		c.Reset()
		if c.locks != (locks{}) {
			t.Errorf("behind a reset the locks are %+v", c.locks)
		}
	}
}

// What made a chip jump once is gone when it is started again: so are its locks.
func TestStopLeavesNothingLocked(t *testing.T) {
	for name, spoil := range map[string]func(*Chip){
		"fuses":  func(c *Chip) { c.words[0] = 0 },
		"state":  func(c *Chip) { c.words[0], c.words[1] = api.Scrap, api.Scrap },
		"images": func(c *Chip) { clear(c.flash) },
	} {
		for _, gaps := range [][]int{nil, {1}} {
			c := withImages(t, true)
			c.Boot(nil)
			spoil(c)
			if end := c.Boot(gaps); end.Jump || end.Runs != 1+len(gaps) || c.locks != (locks{}) {
				t.Errorf("%s, gaps %v: %+v, the locks %+v", name, gaps, end, c.locks)
			}
		}
	}
}

// The image of the last start may be gone when the chip is started again: then the other one is locked.
func TestLocksAreThoseOfTheLastJump(t *testing.T) {
	c := withImages(t, true)
	c.Boot(nil)
	c.flash[0] = 'K'
	if end := c.Boot(nil); end.Slot != 1 || c.locks != (locks{true, 1}) {
		t.Errorf("%+v, the locks %+v", end, c.locks)
	}
}

func TestBytesOfSlots(t *testing.T) {
	for n, lengths := range map[int][2]int{0: {0, 0}, 1: {1, 0}, 8191: {8191, 0}, 8192: {8192, 0}, 8193: {8192, 1}, 16384: {8192, 8192}, 20000: {8192, 8192}} {
		flash := strings.Repeat("0123456789", 2000)[:n]
		c := &Chip{flash: []byte(flash)}
		a, b := c.bytesOf(0), c.bytesOf(1)
		if [2]int{len(a), len(b)} != lengths || !strings.HasPrefix(flash, a+b) {
			t.Errorf("of %d bytes: %d and %d", n, len(a), len(b))
		}
	}
}

func TestKeepGoesRound(t *testing.T) {
	c := &Chip{}
	for i := range 256 {
		c.keep(byte(i))
		if c.kept[1+i%15] != byte(i) || c.kept[0] != byte(i+1) {
			t.Fatalf("behind %d bytes: %x", i+1, c.kept)
		}
	}
}
