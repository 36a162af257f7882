package lintel_test

import (
	"fmt"
	"math/rand"
	"strings"
	"testing"
	"unsafe"

	"lintel/lintel"
)

func want(b string) string { return string(hashOf([]byte(b))) }

func TestP3ShaOfExamples(t *testing.T) {
	for b, hash := range map[string]string{
		"":    "e3b0c44298fc1c149afbf4c8996fb92427ae41e4649b934ca495991b7852b855",
		"abc": "ba7816bf8f01cfea414140de5dae2223b00361a396177a9cb410ff61f20015ad",
	} {
		if got := fmt.Sprintf("%x", lintel.Sha(b)); got != hash {
			t.Errorf("Sha(%q) = %s, want %s", b, got, hash)
		}
	}
}

func TestP3ShaOfRandomBytes(t *testing.T) {
	r := rand.New(rand.NewSource(3))
	for n := range 400 {
		b := make([]byte, n)
		r.Read(b)
		if lintel.Sha(string(b)) != want(string(b)) {
			t.Errorf("Sha of %d bytes is another", n)
		}
	}
	if long := strings.Repeat("\x00\xff", 1<<20); lintel.Sha(long) != want(long) {
		t.Error("Sha of 2 to the 21 bytes is another")
	}
}

func TestP3HashOfNoBytes(t *testing.T) {
	h := lintel.NewHash()
	if h.Sum() != want("") {
		t.Error("a new hash is not that of no bytes")
	}
	h.Write("")
	if h.Sum() != want("") {
		t.Error("an empty piece counts")
	}
}

func TestP3SumMayBeAskedAgainAndPiecesWrittenBehindIt(t *testing.T) {
	h := lintel.NewHash()
	all := ""
	for n := range 200 {
		piece := strings.Repeat(string(rune('a'+n%26)), n)
		h.Write(piece)
		all += piece
		if first, again := h.Sum(), h.Sum(); first != want(all) || again != first {
			t.Fatalf("behind %d pieces: %x, then %x, want %x", n+1, first, again, want(all))
		}
	}
}

func TestP2HashesShareNothing(t *testing.T) {
	one, other := lintel.NewHash(), lintel.NewHash()
	one.Write("one")
	other.Write("the other")
	one.Sum()
	one.Write(" and more")
	if one.Sum() != want("one and more") || other.Sum() != want("the other") {
		t.Error("a hash hangs on the calls on another one")
	}
}

func TestP2PiecesAreNotKept(t *testing.T) {
	h := lintel.NewHash()
	var all strings.Builder
	for n := 1; n < 150; n++ {
		room := []byte(strings.Repeat("p", n))
		h.Write(unsafe.String(&room[0], n))
		all.WriteString(strings.Repeat("p", n))
		if string(room) != strings.Repeat("p", n) {
			t.Fatal("a piece was written into")
		}
		clear(room) // a hash that kept the piece would see this
		if h.Sum() != want(all.String()) {
			t.Fatalf("a piece of %d bytes was kept", n)
		}
	}
}
