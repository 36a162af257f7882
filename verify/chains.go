package verify

import (
	"iter"
	"slices"
	"sync"

	"lintel/digest"
	"lintel/octets"
)

// shares is how many goroutines the chains are dealt to.
const shares = 8

// digitsOf is how often each chain has been gone on, as the message's hash says. Behind its digits come those of a sum that falls where they grow: who goes one chain on, to sign another message, would have to take another chain back.
func (k key) digitsOf(hash string) []int {
	sum := 0
	for digit := range digits(hash, k.width) {
		sum += k.top() - digit
	}
	all := hash + octets.U16(sum<<k.shift)
	return slices.Collect(digits(all, k.width))[:k.count]
}

// digits goes over the bits of some bytes, so many at a time, of each byte the highest first.
func digits(b string, width int) iter.Seq[int] {
	return func(yield func(int) bool) {
		for i := range len(b) {
			for at := 8 - width; at >= 0; at -= width {
				if !yield(int(b[i]) >> at & (1<<width - 1)) {
					return
				}
			}
		}
	}
}

// ends goes all chains on to their ends, each goroutine those of its share: every chain has a place of its own, so that no schedule shows.
func (s signature) ends(gone []int) []string {
	ends := make([]string, s.count)
	var workers sync.WaitGroup
	for share := range shares {
		workers.Add(1)
		go func() {
			defer workers.Done()
			for i, link := range s.shareOf(share) {
				ends[i] = s.end(i, gone[i], link)
			}
		}()
	}
	workers.Wait()
	return ends
}

// shareOf goes over the chains of one share, and where they stand. They are dealt in turn, so that no share has many more than another.
func (s signature) shareOf(share int) iter.Seq2[int, string] {
	return func(yield func(int, string) bool) {
		for i := share; i < s.count; i += shares {
			if !yield(i, s.links[i*digest.Size:(i+1)*digest.Size]) {
				return
			}
		}
	}
}

// end goes one chain on, from its digit to its end.
func (s signature) end(i, digit int, link string) string {
	at := s.id + octets.U32(s.q) + octets.U16(i)
	for j := range s.steps(digit) {
		link = digest.Of(at, octets.U8(j), link)
	}
	return link
}

// steps goes over the places of a chain from which it is gone on, the first one being its digit.
func (k key) steps(digit int) iter.Seq[int] {
	return func(yield func(int) bool) {
		for j := digit; j < k.top(); j++ {
			if !yield(j) {
				return
			}
		}
	}
}
