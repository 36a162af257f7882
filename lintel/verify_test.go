package lintel_test

import (
	"math/rand"
	"runtime"
	"strings"
	"sync"
	"testing"
	"time"

	"lintel/api"
	"lintel/lintel"
)

func answers(t *testing.T, what string, got, want api.Errno) {
	t.Helper()
	if got != want {
		t.Errorf("%s: %d, want %d", what, got, want)
	}
}

// turned: a text with one bit turned over.
func turned(s string, bit int) string {
	b := []byte(s)
	b[bit/8] ^= 1 << (bit % 8)
	return string(b)
}

func put(s string, at int, piece []byte) string {
	return s[:at] + string(piece) + s[at+len(piece):]
}

func TestP4EachKindAndEachLeaf(t *testing.T) {
	for _, k := range kinds {
		s := newSigner(k, "each leaf")
		for q := range 1 << k.height {
			signature := s.sign(q, "a message")
			answers(t, k.String(), lintel.Verify(s.key(), "a message", signature), api.OK)
			next := (q + 1) % (1 << k.height)
			answers(t, k.String()+", another leaf", lintel.Verify(s.key(), "a message", put(signature, 0, u32(next))), api.ErrSignature)
		}
	}
}

func TestP4Messages(t *testing.T) {
	s := newSigner(kinds[4], "messages")
	messages := []string{"", "\x00", "a", "ab", strings.Repeat("long ", 50000), strings.Repeat("long ", 50000) + "\x00"}
	for i, signed := range messages {
		signature := s.sign(i%4, signed)
		for j, message := range messages {
			want := api.ErrSignature
			if i == j {
				want = api.OK
			}
			answers(t, "one message's signature, another's", lintel.Verify(s.key(), message, signature), want)
		}
	}
}

// The edges of a digit: a chain that is hashed as often as may be, and one that is not hashed at all.
func TestP4LeastAndGreatestDigits(t *testing.T) {
	for _, k := range kinds[3:] {
		s := newSigner(k, "digits")
		for _, first := range []byte{0, 255} {
			salt := hashOf()
			for s.hashOfMessage(1, salt, "m")[0] != first {
				salt = hashOf(salt)
			}
			answers(t, k.String(), lintel.Verify(s.key(), "m", s.signSalted(1, salt, "m")), api.OK)
		}
	}
}

func TestP4EachByteCounts(t *testing.T) {
	for _, k := range kinds[3:] {
		s := newSigner(k, "bytes")
		key, signature := s.key(), s.sign(2, "m")
		for i := range len(signature) {
			answers(t, k.String()+", a bit of the signature turned", lintel.Verify(key, "m", turned(signature, 8*i+i%8)), api.ErrSignature)
		}
		for i := 8; i < len(key); i++ {
			answers(t, k.String()+", a bit of the key turned", lintel.Verify(turned(key, 8*i+i%8), "m", signature), api.ErrSignature)
		}
	}
}

func TestP4KeysOfUnknownKinds(t *testing.T) {
	s := newSigner(kinds[4], "kinds")
	key, signature := s.key(), s.sign(0, "m")
	for _, tree := range []int{0, 1, 4, 6, 7, 225, 227, 5 << 8, 5 << 24, 1<<24 + 5, 1<<16 + 226, 1<<31 + 5, 1<<32 - 1} {
		answers(t, "another tree", lintel.Verify(put(key, 0, u32(tree)), "m", signature), api.ErrType)
	}
	for _, chains := range []int{0, 1, 5, 6, 3 << 8, 3 << 24, 1<<24 + 3, 1<<31 + 3, 1<<32 - 1} {
		answers(t, "other chains", lintel.Verify(put(key, 4, u32(chains)), "m", signature), api.ErrType)
	}
	for n := range len(key) + 9 {
		if n != len(key) {
			answers(t, "a key of another length", lintel.Verify((key + key)[:n], "m", signature), api.ErrType)
		}
	}
}

func TestP4KindsOfKeyAndSignatureAgree(t *testing.T) {
	for _, k := range kinds {
		s := newSigner(k, "agree")
		key, signature := s.key(), s.sign(3, "m")
		treeAt := len(signature) - 32*k.height - 4
		for _, other := range kinds {
			if other.tree != k.tree {
				answers(t, "a key of the other tree", lintel.Verify(put(key, 0, u32(other.tree)), "m", signature), api.ErrSignature)
				answers(t, "a signature of the other tree", lintel.Verify(key, "m", put(signature, treeAt, u32(other.tree))), api.ErrSignature)
			}
			if other.chains != k.chains {
				answers(t, "a key of other chains", lintel.Verify(put(key, 4, u32(other.chains)), "m", signature), api.ErrSignature)
				answers(t, "a signature of other chains", lintel.Verify(key, "m", put(signature, 4, u32(other.chains))), api.ErrSignature)
			}
			if other != k {
				answers(t, "a signature of another kind", lintel.Verify(key, "m", newSigner(other, "agree").sign(3, "m")), api.ErrSignature)
			}
		}
	}
}

func TestP4LeavesBeyondTheTree(t *testing.T) {
	for _, k := range kinds {
		s := newSigner(k, "beyond")
		signature := s.sign(0, "m")
		for _, q := range []int{1 << k.height, 1<<k.height + 1, 256, 1 << 16, 1 << 24, 1 << 31, 1<<32 - 1} {
			answers(t, k.String(), lintel.Verify(s.key(), "m", put(signature, 0, u32(q))), api.ErrSignature)
		}
	}
}

// A leaf beyond the tree, all else right: two steps up from it stands what the key calls its root.
func TestP4LeafBelowTheTree(t *testing.T) {
	s := newSigner(kinds[3], "below")
	const q = 5 // node 9, whose parents are 4 and 2
	s.nodes = append(s.nodes, hashOf(), s.leaf(q))
	s.nodes[4] = s.parent(4, s.nodes[8], s.nodes[9])
	s.nodes[1] = s.parent(2, s.nodes[4], s.nodes[5])
	signature := s.sign(q, "m")
	answers(t, "two steps", lintel.Verify(s.key(), "m", signature[:len(signature)-32]), api.ErrSignature)
	answers(t, "three steps", lintel.Verify(s.key(), "m", signature), api.ErrSignature)
}

func TestP4SignaturesOfEachLength(t *testing.T) {
	for _, k := range kinds {
		s := newSigner(k, "lengths")
		signature := s.sign(1, "m")
		for n := range len(signature) + 100 {
			if n != len(signature) {
				answers(t, k.String()+", another length", lintel.Verify(s.key(), "m", (signature + signature)[:n]), api.ErrSignature)
			}
		}
	}
}

func TestP4AnothersSignature(t *testing.T) {
	one, other := newSigner(kinds[4], "one"), newSigner(kinds[4], "other")
	answers(t, "by another's key", lintel.Verify(other.key(), "m", one.sign(2, "m")), api.ErrSignature)
}

func TestP1TheErrorThatIsNamedFirst(t *testing.T) {
	key := newSigner(kinds[3], "first").key()
	for _, signature := range []string{"", "x", strings.Repeat("\x00", 5000)} {
		answers(t, "no key", lintel.Verify("", "", signature), api.ErrType)
		answers(t, "a short key", lintel.Verify(key[:55], "", signature), api.ErrType)
		answers(t, "a key of no tree", lintel.Verify(put(key, 0, u32(0)), "", signature), api.ErrType)
		answers(t, "a key of no chains", lintel.Verify(put(key, 4, u32(0)), "", signature), api.ErrType)
		answers(t, "a right key", lintel.Verify(key, "", signature), api.ErrSignature)
	}
}

func TestP1AllStringsEnd(t *testing.T) {
	r := rand.New(rand.NewSource(1))
	text := func(n int) string {
		b := make([]byte, n)
		r.Read(b)
		return string(b)
	}
	for range 2000 {
		answers(t, "random bytes", lintel.Verify(text(r.Intn(60)), text(r.Intn(200)), text(r.Intn(5000))), api.ErrType)
	}
	for _, k := range kinds {
		size := 4 + 4 + 32 + 32*k.count + 4 + 32*k.height
		key := string(u32(k.tree)) + string(u32(k.chains)) + text(48)
		for range 100 {
			answers(t, "random bytes behind a known kind", lintel.Verify(key, text(9), text(size)), api.ErrSignature)
			framed := put(put(put(text(size), 0, u32(r.Intn(1<<k.height))), 4, u32(k.chains)), 40+32*k.count, u32(k.tree))
			answers(t, "random bytes in the right form", lintel.Verify(key, text(9), framed), api.ErrSignature)
		}
	}
}

func TestP2OneAnswerHoweverGoroutinesRun(t *testing.T) {
	s := newSigner(kinds[5], "schedules")
	key, right := s.key(), s.sign(1, "m")
	wrong := turned(right, 8*100)
	defer runtime.GOMAXPROCS(runtime.GOMAXPROCS(0))
	for _, cores := range []int{1, 2, 8} {
		runtime.GOMAXPROCS(cores)
		var callers sync.WaitGroup
		for range 40 {
			callers.Go(func() {
				answers(t, "at the same time", lintel.Verify(key, "m", right), api.OK)
				answers(t, "at the same time", lintel.Verify(key, "m", wrong), api.ErrSignature)
			})
		}
		callers.Wait()
	}
}

func TestP1GoroutinesEnd(t *testing.T) {
	s := newSigner(kinds[3], "ends")
	signature := s.sign(1, "m")
	before := runtime.NumGoroutine()
	for range 200 {
		lintel.Verify(s.key(), "m", signature)
	}
	// One that has said that it is done may still be on its way out.
	for range 1000 {
		if runtime.NumGoroutine() <= before {
			return
		}
		time.Sleep(time.Millisecond)
	}
	t.Errorf("%d goroutines, %d before", runtime.NumGoroutine(), before)
}
