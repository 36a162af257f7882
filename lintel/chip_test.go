package lintel_test

import (
	"fmt"
	"math"
	"slices"
	"strings"
	"testing"
	"unsafe"

	"lintel/api"
	"lintel/lintel"
)

// someKept: bytes to keep, none like another.
const someKept = "\x00\xff\x80\x7f456789abcdef"

// allBytes: so many bytes, of all kinds.
func allBytes(n int) string {
	b := make([]byte, n)
	for i := range b {
		b[i] = byte(i * 7)
	}
	return string(b)
}

func newChip(t *testing.T, flash string, words []int, kept string) *lintel.Chip {
	t.Helper()
	c, e := lintel.New(flash, words, kept)
	if c == nil || e != api.OK {
		t.Fatalf("no chip, error %d", e)
	}
	return c
}

func noChip(t *testing.T, what, flash string, words []int, kept string) {
	t.Helper()
	if c, e := lintel.New(flash, words, kept); c != nil || e != api.ErrArg {
		t.Errorf("%s: a chip: %v, error %d", what, c != nil, e)
	}
}

// chipTells: what there is now.
func chipTells(t *testing.T, what string, c *lintel.Chip, flash string, words []int, kept string) {
	t.Helper()
	if c.Flash() != flash {
		t.Errorf("%s: the flash is another one, of %d bytes", what, len(c.Flash()))
	}
	if !slices.Equal(c.Words(), words) {
		t.Errorf("%s: the words are %v, want %v", what, c.Words(), words)
	}
	if c.Kept() != kept {
		t.Errorf("%s: %x is kept, want %x", what, c.Kept(), kept)
	}
}

func TestP8FlashesOfAnyLength(t *testing.T) {
	for _, n := range []int{0, 1, 77, 78, 8191, 8192, 8193, 16383, 16384, 16385, 1 << 20} {
		c := newChip(t, allBytes(n), someWords(), someKept)
		for range 2 {
			chipTells(t, fmt.Sprint(n, " bytes of flash"), c, allBytes(n), someWords(), someKept)
		}
	}
}

func TestP8WordsOfAnyKind(t *testing.T) {
	edges := make([]int, 85)
	for at := range edges {
		edges[at] = at % 2 * 65535
	}
	numbers := make([]int, 85)
	for at := range numbers {
		numbers[at] = 771 * at
	}
	for _, words := range [][]int{make([]int, 85), edges, numbers, someWords()} {
		chipTells(t, "words", newChip(t, "flash", words, someKept), "flash", words, someKept)
	}
	for at := range 85 {
		words := with(make([]int, 85), at, 65535)
		chipTells(t, fmt.Sprint("the word ", at), newChip(t, "", words, someKept), "", words, someKept)
	}
}

func TestP8KeptBytesOfAnyKind(t *testing.T) {
	for _, kept := range []string{someKept, strings.Repeat("\x00", 16), strings.Repeat("\xff", 16), allBytes(16)} {
		chipTells(t, "kept bytes", newChip(t, "", someWords(), kept), "", someWords(), kept)
	}
}

func TestP8WrongWords(t *testing.T) {
	words := someWords()
	long := append(slices.Clone(words), words...)
	noChip(t, "no list", "flash", nil, someKept)
	for n := range 171 {
		if n != 85 {
			noChip(t, fmt.Sprint(n, " words"), "flash", long[:n], someKept)
		}
	}
	for at := range 85 {
		for _, word := range []int{-1, 65536, words[at] + 65536, words[at] - 65536, math.MinInt, math.MaxInt} {
			noChip(t, fmt.Sprintf("%d at %d", word, at), "flash", with(words, at, word), someKept)
		}
	}
}

func TestP8WrongKeptBytes(t *testing.T) {
	for n := range 50 {
		if n != 16 {
			noChip(t, fmt.Sprint(n, " bytes kept"), "flash", someWords(), allBytes(n))
		}
	}
	noChip(t, "many bytes kept", "", someWords(), allBytes(1<<16+16))
	noChip(t, "nothing right", "", nil, "")
}

func TestP2NewLeavesTheWordsAlone(t *testing.T) {
	for _, words := range [][]int{someWords(), make([]int, 84), with(someWords(), 3, -1)} {
		short, whole := roomy(words, -7)
		before := slices.Clone(whole)
		if c, _ := lintel.New("flash", short, someKept); c != nil {
			c.Boot(nil)
			c.Words()[0] = 1
		}
		if !slices.Equal(whole, before) {
			t.Error("the words, or what stands behind them, are others")
		}
	}
}

func TestP2ChipsKeepNothingHandedIn(t *testing.T) {
	words := someWords()
	flash, kept := []byte(allBytes(99)), []byte(someKept)
	c := newChip(t, unsafe.String(&flash[0], len(flash)), words, unsafe.String(&kept[0], len(kept)))
	clear(words) // a chip that shares memory with what was handed in would see this
	clear(flash)
	clear(kept)
	chipTells(t, "what was handed in is gone", c, allBytes(99), someWords(), someKept)
}

func TestP2WordsAreNewMemory(t *testing.T) {
	c := newChip(t, "flash", someWords(), someKept)
	first, second := c.Words(), c.Words()
	for i := range first[:cap(first)] {
		first[:cap(first)][i] = -1
	}
	if !slices.Equal(second, someWords()) {
		t.Errorf("written into one answer, another is %v", second)
	}
	chipTells(t, "written into an answer", c, "flash", someWords(), someKept)
}

func TestP2AnswersStayAsTheyWere(t *testing.T) {
	c := newChip(t, "flash", someWords(), someKept)
	kept := c.Kept()
	c.Boot(nil)
	if kept != someKept || c.Kept() == someKept {
		t.Errorf("%x was kept, then %x", kept, c.Kept())
	}
}

func TestP2ChipsShareNothing(t *testing.T) {
	words := someWords()
	one, other := newChip(t, "flash", words, someKept), newChip(t, "flash", words, someKept)
	one.Boot([]int{1, 1})
	chipTells(t, "the other was started", other, "flash", words, someKept)
}
