package lintel_test

import (
	"fmt"
	"math"
	"math/rand"
	"slices"
	"strings"
	"testing"

	"lintel/api"
	"lintel/lintel"
)

const noughts = "\x00\x00\x00\x00\x00\x00\x00\x00\x00\x00\x00\x00\x00\x00\x00\x00"

// noted: what all runs note, and how many there are, if one that nothing cuts notes the whole.
func noted(whole string, gaps []int) (string, int) {
	all := ""
	for i, gap := range gaps {
		if gap >= len(whole) {
			return all + whole, i + 1
		}
		all += whole[:max(0, gap)]
	}
	return all + whole, len(gaps) + 1
}

// keptBehind: what is kept when bytes were noted.
func keptBehind(kept, notes string) string {
	b, first := []byte(kept), int(kept[0])
	for i := range len(notes) {
		b[1+(first+i)%256%15] = notes[i]
	}
	b[0] = byte(first + len(notes))
	return string(b)
}

// bootIs: Boot ends so, if a run that nothing cuts notes the whole.
func bootIs(t *testing.T, what string, c *lintel.Chip, gaps []int, whole string, end api.Outcome) {
	t.Helper()
	flash, words, kept := c.Flash(), c.Words(), c.Kept()
	notes, runs := noted(whole, gaps)
	end.Runs = runs
	if got := c.Boot(gaps); got != end {
		t.Errorf("%s, gaps %v: %+v, want %+v", what, gaps, got, end)
	}
	chipTells(t, fmt.Sprintf("%s, gaps %v", what, gaps), c, flash, words, keptBehind(kept, notes))
}

func jumped(slot, entry int) api.Outcome {
	return api.Outcome{Jump: true, Slot: slot, Entry: entry}
}

func stopped(reason api.Errno) api.Outcome { return api.Outcome{Reason: reason} }

// board: what the tests of Boot put into a chip: fuses, and slots that are checked so.
type board struct {
	good   *signer
	slots  map[api.Errno]string
	places [4]place
}

// The least version of a board's fuses, of its images the entry.
const (
	leastWord  = 31
	boardEntry = 120
)

func newBoard() board {
	good, unknown, other := newSigner(kinds[3], "good"), newSigner(kind{6, 3, 2, 4, 67, 4}, "unknown"), newSigner(kinds[3], "revoked")
	right := good.image(1, bootable())
	old := bootable()
	old.Version = 4
	return board{
		good: good,
		slots: map[api.Errno]string{
			api.OK:           right,
			api.ErrMagic:     turned(right, 0),
			api.ErrSize:      put(right, 6, u32(77)),
			api.ErrEntry:     put(right, 10, u32(122)),
			api.ErrVersion:   good.image(1, old),
			api.ErrKey:       other.image(1, bootable()),
			api.ErrType:      unknown.image(1, bootable()),
			api.ErrSignature: turned(right, 8*299),
		},
		places: [4]place{
			{api.Off, api.Off, want("no key")}, {api.On, api.Off, want(unknown.key())},
			{api.On, api.On, want(other.key())}, {api.On, api.Off, want(good.key())},
		},
	}
}

func (b board) words(state int) []int {
	return fuseWords(state, [3]int{leastWord, leastWord, leastWord}, b.places)
}

// ends: the whole that a run notes and how it ends, if the slots are checked so.
func ends(a, b api.Errno) (string, api.Outcome) {
	switch {
	case a == api.OK:
		return "\x01\x10\x09", jumped(0, boardEntry)
	case b == api.OK:
		return "\x01" + string(u8(16+int(a))) + "\x20\x09", jumped(1, boardEntry)
	}
	return "\x01" + string(u8(16+int(a))) + string(u8(32+int(b))) + "\x04", stopped(max(a, b))
}

func TestP9EachErrorInEachSlot(t *testing.T) {
	b := newBoard()
	for a, slotA := range b.slots {
		for _, state := range []int{api.Test, api.Prod} {
			for second, slotB := range b.slots {
				whole, end := ends(a, second)
				c := newChip(t, slotA+slotB, b.words(state), noughts)
				bootIs(t, fmt.Sprintf("state %04x, errors %d, %d", state, a, second), c, nil, whole, end)
			}
			for _, n := range []int{0, 1, 78, 8191} {
				whole, end := ends(a, api.ErrShort)
				c := newChip(t, slotA+b.slots[api.OK][:n], b.words(state), noughts)
				bootIs(t, fmt.Sprintf("error %d, and %d bytes behind it", a, n), c, nil, whole, end)
			}
		}
	}
}

func TestP9ShortAndLongFlashes(t *testing.T) {
	b := newBoard()
	right := b.slots[api.OK]
	for _, n := range []int{0, 1, 4, 77, 78, 4096, 8191} {
		c := newChip(t, right[:n], b.words(api.Prod), noughts)
		bootIs(t, fmt.Sprint(n, " bytes"), c, nil, "\x01\x13\x23\x04", stopped(api.ErrShort))
	}
	none := strings.Repeat("\x00", 8192)
	for _, behind := range []string{"x", right, none + right} {
		c := newChip(t, none+right+behind, b.words(api.Prod), noughts)
		bootIs(t, "bytes behind B", c, nil, "\x01\x14\x20\x09", jumped(1, 120))
		c = newChip(t, none+none+behind, b.words(api.Prod), noughts)
		bootIs(t, "an image that is in no slot", c, nil, "\x01\x14\x24\x04", stopped(api.ErrMagic))
	}
	for _, shift := range []int{8191, 8193, 4096} {
		flash := strings.Repeat("\x00", shift) + right + none
		bootIs(t, "an image across the slots", newChip(t, flash, b.words(api.Prod), noughts), nil, "\x01\x14\x24\x04", stopped(api.ErrMagic))
	}
}

func TestP9EachSlotHasItsOwnEntry(t *testing.T) {
	b := newBoard()
	far := bootable()
	far.Entry = 296
	a, other := b.slots[api.OK], b.good.image(2, far)
	words := b.words(api.Test)
	bootIs(t, "both right", newChip(t, a+other, words, noughts), nil, "\x01\x10\x09", jumped(0, 120))
	bootIs(t, "both right, the other way round", newChip(t, other+a, words, noughts), nil, "\x01\x10\x09", jumped(0, 296))
	bootIs(t, "B right", newChip(t, turned(a, 8*200)+other, words, noughts), nil, "\x01\x1a\x20\x09", jumped(1, 296))
}

// A newer image in B does not go ahead of A.
func TestP9TheVersionDoesNotChoose(t *testing.T) {
	b := newBoard()
	newer := bootable()
	newer.Version = 9
	bootIs(t, "B is newer", newChip(t, b.slots[api.OK]+b.good.image(0, newer), b.words(api.Prod), noughts), nil, "\x01\x10\x09", jumped(0, 120))
}

func TestP9States(t *testing.T) {
	b := newBoard()
	right := b.slots[api.OK]
	for _, flash := range []string{right + right, ""} {
		for _, state := range []int{api.Rma, api.Scrap} {
			bootIs(t, fmt.Sprintf("the state %04x", state), newChip(t, flash, b.words(state), noughts), nil, "\x01\x03", stopped(api.ErrState))
		}
	}
	for _, state := range states {
		for bit := range 16 {
			words := with(b.words(state), 0, state^1<<bit)
			bootIs(t, "a bit of the state turned", newChip(t, right+right, words, noughts), nil, "\x01\x02", stopped(api.ErrFuses))
			words = with(words, 1, state^1<<bit)
			bootIs(t, "a bit of both turned", newChip(t, right+right, words, noughts), nil, "\x01\x02", stopped(api.ErrFuses))
		}
	}
}

func TestP9WrongFuses(t *testing.T) {
	b := newBoard()
	right := b.slots[api.OK]
	bootIs(t, "all 0", newChip(t, right+right, make([]int, 85), noughts), nil, "\x01\x02", stopped(api.ErrFuses))
	for _, state := range states {
		words := b.words(state)
		for _, at := range []int{5, 8, 25, 28, 45, 65, 68} {
			c := newChip(t, right+right, with(words, at, words[at]^1), noughts)
			bootIs(t, fmt.Sprintf("state %04x, the word %d turned", state, at), c, nil, "\x01\x02", stopped(api.ErrFuses))
		}
		bootIs(t, "no least version", newChip(t, "", with(with(words, 2, 5), 3, 5), noughts), nil, "\x01\x02", stopped(api.ErrFuses))
	}
}

func TestP9LeastVersionsAndPlaces(t *testing.T) {
	b := newBoard()
	flash := b.slots[api.OK]
	for least := range 17 {
		word := 1<<least - 1
		c := newChip(t, flash, fuseWords(api.Prod, [3]int{word, 0xffff, word}, b.places), noughts)
		if least <= 5 {
			bootIs(t, fmt.Sprint("at least ", least), c, nil, "\x01\x10\x09", jumped(0, 120))
		} else {
			bootIs(t, fmt.Sprint("at least ", least), c, nil, "\x01\x17\x23\x04", stopped(api.ErrVersion))
		}
	}
	hash := want(b.good.key())
	for k := range 4 {
		for _, p := range []place{{api.On, api.Off, hash}, {api.On, api.On, hash}, {api.Off, api.Off, hash}, {api.Off, api.On, hash}, {api.On, api.Off, turned(hash, 255)}} {
			places := somePlaces()
			places[k] = p
			c := newChip(t, flash, fuseWords(api.Test, [3]int{}, places), noughts)
			if p == (place{api.On, api.Off, hash}) {
				bootIs(t, fmt.Sprint("the key at ", k), c, nil, "\x01\x10\x09", jumped(0, 120))
			} else {
				bootIs(t, fmt.Sprint("no key that may be used at ", k), c, nil, "\x01\x18\x23\x04", stopped(api.ErrKey))
			}
		}
	}
}

func TestP9TheExample(t *testing.T) {
	none := make([]int, 85)
	c := newChip(t, "", none, noughts)
	if end := c.Boot(nil); end != (api.Outcome{Runs: 1, Reason: api.ErrFuses}) || c.Kept() != "\x02\x01\x02"+noughts[3:] {
		t.Errorf("no gaps: %+v, %x is kept", end, c.Kept())
	}
	c = newChip(t, "", none, noughts)
	if end := c.Boot([]int{1, 0, 5}); end != (api.Outcome{Runs: 3, Reason: api.ErrFuses}) || c.Kept() != "\x03\x01\x01\x02"+noughts[4:] {
		t.Errorf("three gaps: %+v, %x is kept", end, c.Kept())
	}
}

func TestP9BytesThatAreKept(t *testing.T) {
	b := newBoard()
	right, short := b.slots[api.OK], b.words(api.Rma)
	for first := range 256 {
		kept := string(u8(first)) + someKept[1:]
		bootIs(t, fmt.Sprint("two notes from ", first), newChip(t, "", short, kept), nil, "\x01\x03", stopped(api.ErrState))
		c := newChip(t, turned(right, 0)+right, b.words(api.Prod), kept)
		for range 6 {
			bootIs(t, fmt.Sprint("four notes from ", first), c, []int{3, 1}, "\x01\x14\x20\x09", jumped(1, 120))
		}
	}
	// Behind 255 comes 0: the byte 1 is written although the one ahead was the byte 1 too.
	c := newChip(t, "", short, "\xff"+noughts[1:])
	c.Boot(nil)
	if c.Kept() != "\x01\x03"+noughts[2:] {
		t.Errorf("from 255 on: %x is kept", c.Kept())
	}
}

// setups: chips whose runs end in each of the ways there are.
func (b board) setups() []setup {
	right, wrong := b.slots[api.OK], b.slots[api.ErrSignature]
	return []setup{
		{right + wrong, b.words(api.Prod), "\x01\x10\x09", jumped(0, 120)},
		{wrong + right, b.words(api.Test), "\x01\x1a\x20\x09", jumped(1, 120)},
		{wrong, b.words(api.Prod), "\x01\x1a\x23\x04", stopped(api.ErrSignature)},
		{"", b.words(api.Prod), "\x01\x13\x23\x04", stopped(api.ErrShort)},
		{right, b.words(api.Scrap), "\x01\x03", stopped(api.ErrState)},
		{right, make([]int, 85), "\x01\x02", stopped(api.ErrFuses)},
	}
}

type setup struct {
	flash string
	words []int
	whole string
	end   api.Outcome
}

func TestP9EachGap(t *testing.T) {
	gaps := []int{math.MinInt, -16, -1, 0, 1, 2, 3, 4, 5, 6, 255, 256, math.MaxInt}
	for _, s := range newBoard().setups() {
		for _, gap := range gaps {
			bootIs(t, "one gap", newChip(t, s.flash, s.words, someKept), []int{gap}, s.whole, s.end)
			for _, next := range gaps {
				bootIs(t, "two gaps", newChip(t, s.flash, s.words, someKept), []int{gap, next}, s.whole, s.end)
			}
		}
		bootIs(t, "an empty list", newChip(t, s.flash, s.words, someKept), []int{}, s.whole, s.end)
	}
}

func TestP9LongListsOfGaps(t *testing.T) {
	for _, s := range newBoard().setups() {
		for _, n := range []int{15, 100, 255, 256, 300} {
			for gap := range len(s.whole) {
				bootIs(t, fmt.Sprint(n, " gaps"), newChip(t, s.flash, s.words, noughts), slices.Repeat([]int{gap}, n), s.whole, s.end)
			}
		}
		bootIs(t, "very many gaps", newChip(t, s.flash, s.words, noughts), make([]int, 200000), s.whole, s.end)
	}
}

// What comes behind the number of the last run does not matter.
func TestP9NumbersThatAreNotUsed(t *testing.T) {
	for _, s := range newBoard().setups() {
		for used := range 4 {
			gaps := append(slices.Repeat([]int{len(s.whole) - 1}, used), len(s.whole), 0, 1, -1, 4)
			c := newChip(t, s.flash, s.words, noughts)
			bootIs(t, "numbers behind the last run", c, gaps, s.whole, s.end)
		}
	}
}

func TestP9StartedAgain(t *testing.T) {
	for _, s := range newBoard().setups() {
		c := newChip(t, s.flash, s.words, someKept)
		for i := range 12 {
			bootIs(t, fmt.Sprint("started again, ", i), c, slices.Repeat([]int{i % 5}, i%4), s.whole, s.end)
		}
	}
}

func TestP11OnlyFlashAndFusesChoose(t *testing.T) {
	r := rand.New(rand.NewSource(9))
	b := newBoard()
	setups := b.setups()
	kept := make([]byte, 16)
	for range 400 {
		s := setups[r.Intn(len(setups))]
		r.Read(kept)
		c := newChip(t, s.flash, s.words, string(kept))
		for range 1 + r.Intn(3) {
			gaps := make([]int, r.Intn(8))
			for i := range gaps {
				gaps[i] = r.Intn(7) - 2
			}
			bootIs(t, "random gaps", c, gaps, s.whole, s.end)
		}
	}
}

// expected: what a run notes and how it ends, by what Fuses and Check say.
func expected(flash string, words []int) (string, api.Outcome) {
	f, e := lintel.Fuses(words)
	if e != api.OK {
		return "\x01\x02", stopped(api.ErrFuses)
	}
	if f.State == api.Rma || f.State == api.Scrap {
		return "\x01\x03", stopped(api.ErrState)
	}
	_, a := lintel.Check(flash, f)
	_, b := lintel.Check(flash[min(8192, len(flash)):], f)
	return ends(a, b)
}

func TestP1BootOfAnything(t *testing.T) {
	r := rand.New(rand.NewSource(10))
	b := newBoard()
	right := b.slots[api.OK]
	reasons := map[api.Errno]int{}
	for range 1500 {
		words := b.words(states[r.Intn(3)])
		if r.Intn(4) == 0 {
			words[r.Intn(85)] ^= 1 << r.Intn(16)
		}
		flash := []byte(right + right + right)[:min(16384+r.Intn(100), r.Intn(40000))]
		for range min(len(flash), r.Intn(4)) {
			flash[(r.Intn(330)+8192*r.Intn(2))%len(flash)] ^= 1 << r.Intn(8)
		}
		gaps := make([]int, r.Intn(4))
		for i := range gaps {
			gaps[i] = r.Intn(6) - 1
		}
		whole, end := expected(string(flash), words)
		bootIs(t, "anything", newChip(t, string(flash), words, someKept), gaps, whole, end)
		reasons[end.Reason]++
	}
	if len(reasons) < 6 || reasons[api.OK] < 100 {
		t.Errorf("too few of one kind: %v", reasons)
	}
}

func TestP2BootLeavesTheGapsAlone(t *testing.T) {
	for _, s := range newBoard().setups() {
		for _, gaps := range [][]int{{}, {0}, {1, -1, 2}, {9, 9}} {
			short, whole := roomy(gaps, 1)
			before := slices.Clone(whole)
			bootIs(t, "numbers in the spare room", newChip(t, s.flash, s.words, noughts), short, s.whole, s.end)
			if !slices.Equal(whole, before) {
				t.Error("the gaps, or what stands behind them, are others")
			}
		}
	}
}
