package fuses

import (
	"math"
	"slices"
	"testing"

	"lintel/api"
)

// numbered: words, each its own place.
func numbered() []int {
	words := make([]int, api.Words)
	for i := range words {
		words[i] = i
	}
	return words
}

func TestPlaces(t *testing.T) {
	var all []int
	seen := 0
	for k, p := range places(numbered()) {
		if k != seen || len(p) != placeSize {
			t.Errorf("the place %d comes as the %dth, with %d words", k, seen, len(p))
		}
		seen++
		all = append(all, p...)
	}
	if seen != api.Keys || !slices.Equal(all, numbered()[5:]) {
		t.Errorf("%d places, of the words %v", seen, all)
	}
}

func TestPlacesStopWhenAsked(t *testing.T) {
	// An iterator that goes on behind a break panics.
	for range places(numbered()) {
		break
	}
}

func TestAreWords(t *testing.T) {
	words := numbered()
	words[0], words[84] = 0, 65535
	if !AreWords(words) {
		t.Error("85 words of 16 bits are none")
	}
	for _, wrong := range [][]int{nil, words[:84], append(slices.Clone(words), 0)} {
		if AreWords(wrong) {
			t.Errorf("%d words are taken", len(wrong))
		}
	}
	for _, wrong := range []int{-1, 65536} {
		if AreWords(append(slices.Clone(words[:84]), wrong)) {
			t.Errorf("the word %d is taken", wrong)
		}
	}
}

func TestIsWord(t *testing.T) {
	for n, want := range map[int]bool{math.MinInt: false, -65536: false, -1: false, 0: true, 1: true, 65535: true, 65536: false, 1 << 32: false, math.MaxInt: false} {
		if IsWord(n) != want {
			t.Errorf("the word %d is taken: %v", n, !want)
		}
	}
}
