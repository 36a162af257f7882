package verify

import (
	"lintel/api"
	"lintel/octets"
)

// key: what a key says, and what its tree and its chains mean.
type key struct {
	tree, chains string // as they stand in the key: each signature says them again
	id, root     string
	height       int // of the tree
	width        int // of a digit, in bits
	count        int // of the chains
	shift        int // of the sum
}

// readKey takes a key apart; false, if it is of no known kind.
func readKey(b string) (key, bool) {
	if len(b) != api.KeySize {
		return key{}, false
	}
	k := key{tree: b[:4], chains: b[4:8], id: b[8:24], root: b[24:]}
	switch octets.Number(k.tree) {
	case 5:
		k.height = 5
	case 226:
		k.height = 2
	default:
		return key{}, false
	}
	switch octets.Number(k.chains) {
	case 2:
		k.width, k.count, k.shift = 2, 133, 6
	case 3:
		k.width, k.count, k.shift = 4, 67, 4
	case 4:
		k.width, k.count, k.shift = 8, 34, 0
	default:
		return key{}, false
	}
	return k, true
}

// top is the greatest digit: a chain that has come to it is at its end.
func (k key) top() int { return 1<<k.width - 1 }
