package fuses

import (
	"strings"

	"lintel/api"
	"lintel/octets"
)

// place: the words of a place of a key.
type place []int

// Where things stand among the words of a place.
const (
	useAt    = 0
	revokeAt = 2
	hashAt   = 4
)

// right tells whether the place says twice alike what it says twice.
func (p place) right() bool { return p.answers(useAt) && p.answers(revokeAt) }

// answers tells whether two words say the same, and one of the two codes.
func (p place) answers(at int) bool {
	return p[at] == p[at+1] && (p[at] == api.On || p[at] == api.Off)
}

// usable tells whether the key may be used.
func (p place) usable() bool { return p[useAt] == api.On && p[revokeAt] == api.Off }

// hash is that of the key.
func (p place) hash() string {
	var b strings.Builder
	for _, word := range p[hashAt:] {
		b.WriteString(octets.U16(word))
	}
	return b.String()
}
