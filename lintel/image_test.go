package lintel_test

import (
	"fmt"
	"math"
	"math/rand"
	"reflect"
	"slices"
	"strings"
	"testing"
	"unsafe"

	"lintel/api"
	"lintel/lintel"
)

// headBytes: a head as it stands in a slot.
func headBytes(h api.Head) string {
	return "LNTL" + string(u16(h.Version)) + string(u32(h.Signed)) + string(u32(h.Entry)) + string(u32(h.At)) + string(u32(h.Length)) + h.Key
}

// slotOf: a slot that begins with some bytes.
func slotOf(b string) string { return b + strings.Repeat("\x00", 8192-len(b)) }

// someHead: one that is right.
func someHead() api.Head {
	return api.Head{Version: 0x0102, Signed: 1000, Entry: 400, At: 1200, Length: 300, Key: string(u32(5)) + string(u32(3)) + strings.Repeat("idididididididid", 3)}
}

// told: a head with its key to the base 16.
func told(h api.Head) string {
	return fmt.Sprintf("version %d, signed %d, entry %d, at %d, length %d, key %x", h.Version, h.Signed, h.Entry, h.At, h.Length, h.Key)
}

func headIs(t *testing.T, what, slot string, want api.Head, e api.Errno) {
	t.Helper()
	if got, err := lintel.Head(slot); got != want || err != e {
		t.Errorf("%s: %s, error %d, want %s, error %d", what, told(got), err, told(want), e)
	}
}

func TestP6WhatTheHeadSays(t *testing.T) {
	h := someHead()
	headIs(t, "a head", slotOf(headBytes(h)), h, api.OK)
	headIs(t, "with something behind it", slotOf(headBytes(h))+"LNTL", h, api.OK)
	for _, version := range []int{0, 1, 255, 256, 65535} {
		h.Version = version
		headIs(t, "another version", slotOf(headBytes(h)), h, api.OK)
	}
	h.Key = strings.Repeat("\xff\x00no kind of key", 4)[:56]
	headIs(t, "another key", slotOf(headBytes(h)), h, api.OK)
}

func TestP6LengthsOfSlots(t *testing.T) {
	h := someHead()
	slot := slotOf(headBytes(h))
	for _, n := range []int{0, 1, 3, 4, 77, 78, 79, 4096, 8190, 8191} {
		headIs(t, fmt.Sprint(n, " bytes"), slot[:n], api.Head{}, api.ErrShort)
		headIs(t, fmt.Sprint(n, " noughts"), strings.Repeat("\x00", n), api.Head{}, api.ErrShort)
	}
	for _, n := range []int{8192, 8193, 16384, 1 << 20} {
		headIs(t, fmt.Sprint(n, " bytes"), slot+strings.Repeat("x", n-8192), h, api.OK)
	}
}

func TestP6Magic(t *testing.T) {
	slot := slotOf(headBytes(someHead()))
	for bit := range 32 {
		headIs(t, "a bit of the beginning turned", turned(slot, bit), api.Head{}, api.ErrMagic)
	}
	for _, begin := range []string{"LTNL", "lntl", "LNT\x00", "\x00NTL", "XLNT"} {
		headIs(t, begin, begin+slot[4:], api.Head{}, api.ErrMagic)
	}
	headIs(t, "no image, nothing right in it", strings.Repeat("\xff", 8192), api.Head{}, api.ErrMagic)
}

func TestP6Edges(t *testing.T) {
	for _, c := range []struct {
		signed, entry, at, length int
		want                      api.Errno
	}{
		{8192, 80, 8192, 0, api.OK}, {8192, 8188, 8192, 0, api.OK}, {81, 80, 81, 8111, api.OK}, {81, 80, 8192, 0, api.OK}, {81, 80, 8191, 1, api.OK},
		{77, 80, 100, 0, api.ErrSize}, {0, 80, 100, 0, api.ErrSize}, {8193, 80, 8193, 0, api.ErrSize}, {8193, 80, 8192, 0, api.ErrSize}, {1<<32 - 1, 80, 1<<32 - 1, 0, api.ErrSize},
		{81, 80, 80, 100, api.ErrSize}, {81, 80, 0, 100, api.ErrSize}, {8192, 80, 8191, 0, api.ErrSize}, {81, 80, 8193, 0, api.ErrSize},
		{81, 80, 81, 8112, api.ErrSize}, {81, 80, 8192, 1, api.ErrSize}, {81, 80, 8191, 2, api.ErrSize},
		// Sums that would wrap round in 32 bits.
		{81, 80, 1<<32 - 1, 1, api.ErrSize}, {81, 80, 1 << 31, 1 << 31, api.ErrSize}, {81, 80, 100, 1<<32 - 100, api.ErrSize}, {81, 80, 100, 1<<32 - 1, api.ErrSize}, {81, 80, 1<<32 - 1, 1<<32 - 1, api.ErrSize},
		{78, 80, 78, 0, api.ErrEntry}, {80, 80, 80, 0, api.ErrEntry}, {81, 76, 81, 0, api.ErrEntry}, {81, 78, 81, 0, api.ErrEntry}, {81, 79, 81, 0, api.ErrEntry}, {81, 0, 81, 0, api.ErrEntry}, {85, 81, 85, 0, api.ErrEntry}, {85, 82, 85, 0, api.ErrEntry}, {85, 83, 85, 0, api.ErrEntry}, {85, 84, 85, 0, api.OK}, {84, 84, 84, 0, api.ErrEntry},
		{8192, 8192, 8192, 0, api.ErrEntry}, {8192, 8196, 8192, 0, api.ErrEntry}, {8192, 1<<32 - 4, 8192, 0, api.ErrEntry}, {8192, 1<<31 + 80, 8192, 0, api.ErrEntry},
		// Two faults: the one named first.
		{77, 77, 77, 0, api.ErrSize}, {81, 3, 80, 0, api.ErrSize}, {81, 3, 81, 9000, api.ErrSize},
	} {
		h := api.Head{Version: 3, Signed: c.signed, Entry: c.entry, At: c.at, Length: c.length, Key: someHead().Key}
		slot := slotOf(headBytes(h))
		if c.want != api.OK {
			h = api.Head{}
		}
		headIs(t, fmt.Sprintf("%+v", c), slot, h, c.want)
	}
}

// headFault: the rules of P6, each by itself.
func headFault(h api.Head) api.Errno {
	switch {
	case h.Signed < 78, h.Signed > 8192, h.At < h.Signed, h.At > 8192, h.Length > 8192-h.At:
		return api.ErrSize
	case h.Entry&3 != 0, h.Entry <= 77, h.Signed <= h.Entry:
		return api.ErrEntry
	}
	return api.OK
}

func TestP6RandomHeads(t *testing.T) {
	r := rand.New(rand.NewSource(6))
	near := []int{0, 4, 76, 78, 80, 84, 100, 4096, 8188, 8192, 8196, 1 << 16, 1 << 31, 1<<32 - 8}
	pick := func() int { return max(0, near[r.Intn(len(near))]+r.Intn(7)-3) }
	seen := map[api.Errno]int{}
	for range 40000 {
		h := api.Head{Version: r.Intn(1 << 16), Signed: pick(), Entry: pick(), At: pick(), Length: pick(), Key: someHead().Key}
		if r.Intn(2) == 0 {
			h.At, h.Length = max(0, h.Signed+r.Intn(5)-1), r.Intn(100)
		}
		slot, e := slotOf(headBytes(h)), headFault(h)
		if e != api.OK {
			h = api.Head{}
		}
		headIs(t, "a random head", slot, h, e)
		seen[e]++
	}
	if len(seen) != 3 || slices.Min([]int{seen[api.OK], seen[api.ErrSize], seen[api.ErrEntry]}) < 50 {
		t.Errorf("too few of one kind: %v", seen)
	}
}

// image: a slot that is signed with the q-th leaf. A length below 0: that of the signature.
func (s *signer) image(q int, h api.Head) string {
	h.Key = s.key()
	if h.Length < 0 {
		h.Length = len(s.sign(q, ""))
	}
	text := headBytes(h)
	text += strings.Repeat("an image's body ", 600)[:max(0, h.Signed-len(text))]
	slot := slotOf(text)
	return put(slot, h.At, []byte(s.sign(q, text[:h.Signed])))
}

// bootable: the head of an image whose signature has room behind it.
func bootable() api.Head { return api.Head{Version: 5, Signed: 300, Entry: 120, At: 310, Length: -1} }

// vouching: fuses that vouch for keys, at places that may be used.
func vouching(least int, keys ...string) api.Fuses {
	f := api.Fuses{State: api.Prod, Least: least}
	for _, key := range keys {
		f.Usable = append(f.Usable, true)
		f.Hashes = append(f.Hashes, want(key))
	}
	return f
}

func checkIs(t *testing.T, what, slot string, f api.Fuses, entry int, want api.Errno) {
	t.Helper()
	if got, e := lintel.Check(slot, f); got != entry || e != want {
		t.Errorf("%s: %d, %d, want %d, %d", what, got, e, entry, want)
	}
}

func TestP7EachKindOfKey(t *testing.T) {
	for _, k := range kinds {
		s := newSigner(k, "images")
		slot, f := s.image(3, bootable()), vouching(5, s.key())
		checkIs(t, k.String(), slot, f, 120, api.OK)
		checkIs(t, k.String()+", something behind the slot", slot+slot, f, 120, api.OK)
		for _, state := range []int{0, api.Test, api.Rma, api.Scrap, -1} {
			f.State = state
			checkIs(t, k.String()+", another state", slot, f, 120, api.OK)
		}
	}
}

func TestP7ImagesUpToTheEnd(t *testing.T) {
	s := newSigner(kinds[5], "up to the end")
	size := len(s.sign(0, ""))
	h := api.Head{Version: 1, Signed: 8192 - size, Entry: 80, At: 8192 - size, Length: size}
	f := vouching(0, s.key())
	checkIs(t, "a full slot", s.image(0, h), f, 80, api.OK)
	h.Signed, h.Entry = 81, 80
	checkIs(t, "few bytes signed", s.image(1, h), f, 80, api.OK)
}

func TestP7ErrorsOfTheHead(t *testing.T) {
	s := newSigner(kinds[3], "heads")
	slot := s.image(0, bootable())
	for _, f := range []api.Fuses{vouching(5, s.key()), vouching(9, "no key"), {}} {
		checkIs(t, "short", slot[:8191], f, 0, api.ErrShort)
		checkIs(t, "empty", "", f, 0, api.ErrShort)
		checkIs(t, "another beginning", "K"+slot[1:], f, 0, api.ErrMagic)
		checkIs(t, "too many bytes signed", put(slot, 6, u32(8193)), f, 0, api.ErrSize)
		checkIs(t, "an entry that is none", put(slot, 10, u32(121)), f, 0, api.ErrEntry)
	}
}

func TestP7Versions(t *testing.T) {
	s := newSigner(kinds[3], "versions")
	slot := s.image(0, bootable())
	for _, least := range []int{5, 4, 0, -1, math.MinInt} {
		checkIs(t, fmt.Sprint("at least ", least), slot, vouching(least, s.key()), 120, api.OK)
	}
	for _, least := range []int{6, 16, 65541, math.MaxInt} {
		checkIs(t, fmt.Sprint("at least ", least), slot, vouching(least, s.key()), 0, api.ErrVersion)
		checkIs(t, "too old, and no key", slot, vouching(least), 0, api.ErrVersion)
	}
	h := bootable()
	h.Version = 65535
	checkIs(t, "the greatest version", s.image(0, h), vouching(65535, s.key()), 120, api.OK)
}

func TestP7PlacesOfKeys(t *testing.T) {
	s := newSigner(kinds[3], "places")
	slot, hash := s.image(0, bootable()), want(s.key())
	list := func(n, at int) ([]bool, []string) {
		usable, hashes := make([]bool, n), make([]string, n)
		usable[at], hashes[at] = true, hash
		return usable, hashes
	}
	for n := range 7 {
		for at := range n {
			usable, hashes := list(n, at)
			checkIs(t, "the key's place", slot, api.Fuses{Usable: usable, Hashes: hashes}, 120, api.OK)
			checkIs(t, "no place may be used", slot, api.Fuses{Usable: make([]bool, n), Hashes: hashes}, 0, api.ErrKey)
			checkIs(t, "no place has the key", slot, api.Fuses{Usable: usable, Hashes: make([]string, n)}, 0, api.ErrKey)
			checkIs(t, "fewer hashes", slot, api.Fuses{Usable: usable, Hashes: hashes[:at]}, 0, api.ErrKey)
			checkIs(t, "fewer uses", slot, api.Fuses{Usable: usable[:at], Hashes: hashes}, 0, api.ErrKey)
			checkIs(t, "as many hashes as it takes", slot, api.Fuses{Usable: usable, Hashes: hashes[:at+1]}, 120, api.OK)
			checkIs(t, "as many uses as it takes", slot, api.Fuses{Usable: usable[:at+1], Hashes: hashes}, 120, api.OK)
			others := slices.Repeat([]bool{true}, n)
			others[at] = false
			checkIs(t, "all other places may be used", slot, api.Fuses{Usable: others, Hashes: hashes}, 0, api.ErrKey)
			checkIs(t, "the key at all places", slot, api.Fuses{Usable: usable, Hashes: slices.Repeat([]string{hash}, n)}, 120, api.OK)
		}
	}
	for _, other := range []string{"", hash[:31], hash + "\x00", turned(hash, 0), turned(hash, 255), s.key(), want("another key")} {
		checkIs(t, "another hash", slot, api.Fuses{Usable: []bool{true}, Hashes: []string{other}}, 0, api.ErrKey)
	}
	checkIs(t, "no lists", slot, api.Fuses{}, 0, api.ErrKey)
	checkIs(t, "another key, and another signature", turned(slot, 8*400), vouching(0, "another key"), 0, api.ErrKey)
}

func TestP7KeysOfUnknownKinds(t *testing.T) {
	for _, k := range []kind{{6, 3, 2, 4, 67, 4}, {226, 1, 2, 4, 67, 4}, {0, 0, 2, 4, 67, 4}} {
		s := newSigner(k, "unknown")
		slot := s.image(0, bootable())
		checkIs(t, k.String(), slot, vouching(5, s.key()), 0, api.ErrType)
		checkIs(t, k.String()+", that no fuses vouch for", slot, vouching(5, "key"), 0, api.ErrKey)
	}
}

func TestP7EachByteOfTheSignedOnes(t *testing.T) {
	s := newSigner(kinds[5], "each byte")
	slot, f := s.image(2, bootable()), vouching(0, s.key())
	end := 310 + len(s.sign(0, ""))
	for at := 78; at < 8192; at++ {
		if at >= 300 && at < 310 || at >= end {
			if at%61 == 0 || at < end+9 || at == 8191 {
				checkIs(t, fmt.Sprintf("the byte %d, that is not signed", at), turned(slot, 8*at+at%8), f, 120, api.OK)
			}
		} else {
			checkIs(t, fmt.Sprintf("the byte %d, that is signed", at), turned(slot, 8*at+at%8), f, 0, api.ErrSignature)
		}
	}
	checkIs(t, "another version", put(slot, 4, u16(6)), f, 0, api.ErrSignature)
	checkIs(t, "another entry", put(slot, 10, u32(124)), f, 0, api.ErrSignature)
	checkIs(t, "fewer bytes signed", put(slot, 6, u32(299)), f, 0, api.ErrSignature)
	for at := 22; at < 78; at++ {
		checkIs(t, "another key", turned(slot, 8*at), f, 0, api.ErrKey)
	}
}

func TestP7LengthsOfSignatures(t *testing.T) {
	s := newSigner(kinds[4], "lengths")
	f := vouching(0, s.key())
	for _, more := range []int{-2200, -32, -4, -1, 1, 4, 32} {
		h := bootable()
		h.Length = max(0, len(s.sign(0, ""))+more)
		checkIs(t, fmt.Sprint("a signature and ", more), s.image(0, h), f, 0, api.ErrSignature)
	}
}

func TestP7OtherSigners(t *testing.T) {
	s, other := newSigner(kinds[4], "one"), newSigner(kinds[4], "other")
	slot := s.image(0, bootable())
	text := slot[:300]
	f := vouching(0, s.key(), other.key())
	checkIs(t, "signed by the other key", put(slot, 310, []byte(other.sign(0, text))), f, 0, api.ErrSignature)
	checkIs(t, "signed with another leaf", put(slot, 310, []byte(s.sign(3, text))), f, 120, api.OK)
	checkIs(t, "the other key's image", other.image(1, bootable()), f, 120, api.OK)
}

func TestP1ChecksOfRandomBytes(t *testing.T) {
	r := rand.New(rand.NewSource(7))
	s := newSigner(kinds[5], "random")
	slot, f := s.image(2, bootable()), vouching(5, s.key())
	for range 3000 {
		b := []byte(slot)[:8192-r.Intn(2)*r.Intn(8192)]
		for range 1 + r.Intn(3) {
			b[r.Intn(min(len(b), 310))%len(b)] ^= byte(1 + r.Intn(255))
		}
		_, headError := lintel.Head(string(b))
		n, e := lintel.Check(string(b), f)
		if headError != api.OK && e != headError || e != api.OK && n != 0 || n != 0 && string(b[:300]) != slot[:300] {
			t.Errorf("Head answers %d, Check %d, %d", headError, n, e)
		}
	}
}

func TestP2CheckLeavesTheFusesAlone(t *testing.T) {
	s := newSigner(kinds[3], "alone")
	slot := s.image(0, bootable())
	usable, allUsable := roomy([]bool{false, true}, true)
	hashes, allHashes := roomy([]string{"", want(s.key())}, want(s.key()))
	f := api.Fuses{Usable: usable, Hashes: hashes}
	beforeUsable, beforeHashes := slices.Clone(allUsable), slices.Clone(allHashes)
	for range 2 {
		checkIs(t, "a key", slot, f, 120, api.OK)
	}
	checkIs(t, "a key in the spare room", slot, api.Fuses{Usable: allUsable[:1], Hashes: allHashes[:1]}, 0, api.ErrKey)
	if !reflect.DeepEqual(allUsable, beforeUsable) || !reflect.DeepEqual(allHashes, beforeHashes) {
		t.Error("the lists of the fuses, or what stands behind them, are others")
	}
}

func TestP2HeadIsNewMemory(t *testing.T) {
	room := []byte(slotOf(headBytes(someHead())))
	h, _ := lintel.Head(unsafe.String(&room[0], len(room)))
	clear(room) // a key that shares the slot's memory would see this
	if h != someHead() {
		t.Errorf("the head is %s when the slot is gone", told(h))
	}
}
