// Package fuses: what the fuses of a chip say.
package fuses

import (
	"iter"
	"math/bits"

	"lintel/api"
)

// PlacesAt is where the places of keys begin among the words; they go up to the end.
const PlacesAt = 5

// Where other things stand among the words, and how many words a place has.
const (
	stateAt   = 0
	leastAt   = 2
	placeSize = 20
)

// AreWords tells whether these are as many words as a chip has, each of 16 bits.
func AreWords(words []int) bool {
	if len(words) != api.Words {
		return false
	}
	for _, word := range words {
		if !IsWord(word) {
			return false
		}
	}
	return true
}

// IsWord tells whether a number has no more than 16 bits.
func IsWord(n int) bool { return n >= 0 && n <= 0xffff }

// Read tells what fuses say (P5).
func Read(words []int) (api.Fuses, api.Errno) {
	if !AreWords(words) {
		return api.Fuses{}, api.ErrArg
	}
	state, ok := stateOf(words)
	if !ok {
		return api.Fuses{}, api.ErrFuses
	}
	least, ok := leastOf(words)
	if !ok {
		return api.Fuses{}, api.ErrFuses
	}
	f := api.Fuses{State: state, Usable: make([]bool, api.Keys), Least: least, Hashes: make([]string, api.Keys)}
	for k, p := range places(words) {
		if !p.right() {
			return api.Fuses{}, api.ErrFuses
		}
		f.Usable[k] = p.usable()
		f.Hashes[k] = p.hash()
	}
	return f, api.OK
}

// stateOf is the state; false, if it is none, or does not stand there twice alike.
func stateOf(words []int) (int, bool) {
	state, again := words[stateAt], words[stateAt+1]
	switch state {
	case api.Test, api.Prod, api.Rma, api.Scrap:
		return state, state == again
	}
	return 0, false
}

// leastOf is the least version; false, if there is none. Each version burns the next bit, so that it can only grow, and a bit that alone fell over does not count.
func leastOf(words []int) (int, bool) {
	a, b, c := words[leastAt], words[leastAt+1], words[leastAt+2]
	majority := a&b | a&c | b&c
	if majority&(majority+1) != 0 {
		return 0, false
	}
	return bits.OnesCount(uint(majority)), true
}

// places goes over the places of keys.
func places(words []int) iter.Seq2[int, place] {
	return func(yield func(int, place) bool) {
		for k := range api.Keys {
			at := PlacesAt + k*placeSize
			if !yield(k, place(words[at:at+placeSize])) {
				return
			}
		}
	}
}
