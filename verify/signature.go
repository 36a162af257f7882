// Package verify: is a signature one of a message by a key?
package verify

import (
	"iter"
	"strings"

	"lintel/api"
	"lintel/digest"
	"lintel/octets"
)

// Each kind of hash has a mark of its own, so that none can stand for one of another kind.
const (
	markChains  = 32896
	markMessage = 33153
	markLeaf    = 33410
	markParent  = 33667
)

// signature: the parts of a signature that has the form that its key asks for.
type signature struct {
	key
	q     int    // which leaf of the tree
	salt  string // hashed ahead of the message
	links string // where the chains stand, one behind the other
	path  string // the nodes beside the way to the root, one behind the other
}

// Signature tells whether a signature is one of a message by a key (P4).
func Signature(keyBytes, message, signatureBytes string) api.Errno {
	k, ok := readKey(keyBytes)
	if !ok {
		return api.ErrType
	}
	s, ok := k.read(signatureBytes)
	if !ok || s.comesTo(message) != k.root {
		return api.ErrSignature
	}
	return api.OK
}

// read takes a signature apart; false, if it has not the form that the key asks for.
func (k key) read(b string) (signature, bool) {
	const linksAt = 4 + 4 + digest.Size
	treeAt := linksAt + k.count*digest.Size
	pathAt := treeAt + 4
	if len(b) != pathAt+k.height*digest.Size {
		return signature{}, false
	}
	q := octets.Number(b[:4])
	if q >= 1<<k.height || b[4:8] != k.chains || b[treeAt:pathAt] != k.tree {
		return signature{}, false
	}
	return signature{key: k, q: int(q), salt: b[8:linksAt], links: b[linksAt:treeAt], path: b[pathAt:]}, true
}

// comesTo is the root that the signature leads to from the message.
func (s signature) comesTo(message string) string {
	q := octets.U32(s.q)
	gone := s.digitsOf(digest.Of(s.id, q, octets.U16(markMessage), s.salt, message))
	ends := digest.Of(s.id, q, octets.U16(markChains), strings.Join(s.ends(gone), ""))
	leaf := 1<<s.height + s.q
	node := digest.Of(s.id, octets.U32(leaf), octets.U16(markLeaf), ends)
	for n, beside := range s.way(leaf) {
		left, right := node, beside
		if n%2 == 1 {
			left, right = beside, node
		}
		node = digest.Of(s.id, octets.U32(n/2), octets.U16(markParent), left, right)
	}
	return node
}

// way goes from a leaf up to below the root: the number of each node, and the node beside it.
func (s signature) way(leaf int) iter.Seq2[int, string] {
	return func(yield func(int, string) bool) {
		rest := s.path
		for n := leaf; n > 1; n /= 2 {
			if !yield(n, rest[:digest.Size]) {
				return
			}
			rest = rest[digest.Size:]
		}
	}
}
