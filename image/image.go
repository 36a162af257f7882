// Package image: what stands in a slot, and whether it may be started.
package image

import (
	"iter"
	"strings"

	"lintel/api"
	"lintel/digest"
	"lintel/octets"
	"lintel/verify"
)

// magic is what each image begins with.
const magic = "LNTL"

// Where things stand in the head.
const (
	versionAt = 4
	signedAt  = 6
	entryAt   = 10
	atAt      = 14
	lengthAt  = 18
	keyAt     = 22
)

// Head tells what an image's head says (P6).
func Head(slot string) (api.Head, api.Errno) {
	if len(slot) < api.SlotSize {
		return api.Head{}, api.ErrShort
	}
	if slot[:versionAt] != magic {
		return api.Head{}, api.ErrMagic
	}
	// They stay numbers of 64 bits until they are known to be small: no sum of them can wrap round.
	version := octets.Number(slot[versionAt:signedAt])
	signed := octets.Number(slot[signedAt:entryAt])
	entry := octets.Number(slot[entryAt:atAt])
	at := octets.Number(slot[atAt:lengthAt])
	length := octets.Number(slot[lengthAt:keyAt])
	if signed < api.HeadSize || signed > api.SlotSize || at < signed || at+length > api.SlotSize {
		return api.Head{}, api.ErrSize
	}
	if entry%4 != 0 || entry < api.HeadSize || entry >= signed {
		return api.Head{}, api.ErrEntry
	}
	return api.Head{
		Version: int(version),
		Signed:  int(signed),
		Entry:   int(entry),
		At:      int(at),
		Length:  int(length),
		Key:     strings.Clone(slot[keyAt:api.HeadSize]),
	}, api.OK
}

// Check tells whether an image may be started, and where it is entered (P7).
func Check(slot string, f api.Fuses) (int, api.Errno) {
	h, e := Head(slot)
	if e != api.OK {
		return 0, e
	}
	if h.Version < f.Least {
		return 0, api.ErrVersion
	}
	if !vouched(h.Key, f) {
		return 0, api.ErrKey
	}
	e = verify.Signature(h.Key, slot[:h.Signed], slot[h.At:h.At+h.Length])
	if e != api.OK {
		return 0, e
	}
	return h.Entry, api.OK
}

// vouched tells whether the fuses have the hash of a key at a place that may be used.
func vouched(key string, f api.Fuses) bool {
	hash := digest.Of(key)
	for usable := range usableHashes(f) {
		if usable == hash {
			return true
		}
	}
	return false
}

// usableHashes goes over the hashes at the places that may be used. The lists may be of any lengths: a place counts only if both have it.
func usableHashes(f api.Fuses) iter.Seq[string] {
	return func(yield func(string) bool) {
		for k := range min(len(f.Usable), len(f.Hashes)) {
			if f.Usable[k] && !yield(f.Hashes[k]) {
				return
			}
		}
	}
}
