package digest

import (
	"crypto/sha256"
	"encoding/hex"
	"math/big"
	"strings"
	"testing"
)

func library(b string) string {
	sum := sha256.Sum256([]byte(b))
	return string(sum[:])
}

// sample: some bytes that are not all alike.
func sample(n int) string {
	b := make([]byte, n)
	for i := range b {
		b[i] = byte(i*7 + i/256)
	}
	return string(b)
}

func TestExamples(t *testing.T) {
	for b, want := range map[string]string{
		"":    "e3b0c44298fc1c149afbf4c8996fb92427ae41e4649b934ca495991b7852b855",
		"abc": "ba7816bf8f01cfea414140de5dae2223b00361a396177a9cb410ff61f20015ad",
		"abcdbcdecdefdefgefghfghighijhijkijkljklmklmnlmnomnopnopq": "248d6a61d20638b8e5c026930c3e6039a33ce45964ff2167f6ecedd419db06c1",
	} {
		if got := hex.EncodeToString([]byte(Of(b))); got != want {
			t.Errorf("the hash of %q is %s, want %s", b, got, want)
		}
	}
}

func primes(n int) []int64 {
	var found []int64
next:
	for p := int64(2); len(found) < n; p++ {
		for _, q := range found {
			if p%q == 0 {
				continue next
			}
		}
		found = append(found, p)
	}
	return found
}

// behindPoint: the first 32 bits behind the point of a root of a number: the whole part of the root of n times 2 to the 32 times power.
func behindPoint(n int64, power uint) uint32 {
	of := new(big.Int).Lsh(big.NewInt(n), 32*power)
	low, high := big.NewInt(0), new(big.Int).Lsh(big.NewInt(n), 32)
	for one := big.NewInt(1); new(big.Int).Sub(high, low).Cmp(one) > 0; {
		middle := new(big.Int).Rsh(new(big.Int).Add(low, high), 1)
		if new(big.Int).Exp(middle, big.NewInt(int64(power)), nil).Cmp(of) <= 0 {
			low = middle
		} else {
			high = middle
		}
	}
	return uint32(low.Uint64())
}

func TestTablesAreRoots(t *testing.T) {
	first := New().words
	for i, p := range primes(64) {
		if want := behindPoint(p, 3); roots[i] != want {
			t.Errorf("k(%d) = %08x, want %08x", i, roots[i], want)
		}
		if i < len(first) && first[i] != behindPoint(p, 2) {
			t.Errorf("word %d begins as %08x, want %08x", i, first[i], behindPoint(p, 2))
		}
	}
}

func TestEveryLengthAroundBlocks(t *testing.T) {
	for n := range 4*blockSize + 2 {
		if b := sample(n); Of(b) != library(b) {
			t.Errorf("another hash of %d bytes", n)
		}
	}
}

func TestLengthOfManyBits(t *testing.T) {
	// Beyond 2 to the 16 and 2 to the 24 bits more bytes of the length count.
	for _, n := range []int{1<<13 - 1, 1 << 13, 1<<21 - 1, 1 << 21, 1<<21 + 77} {
		if b := strings.Repeat("x", n); Of(b) != library(b) {
			t.Errorf("another hash of %d bytes", n)
		}
	}
}

func TestPiecesAreOneBehindTheOther(t *testing.T) {
	b := sample(3 * blockSize)
	for i := range len(b) + 1 {
		for _, j := range []int{i, i + 1, i + 55, i + 63, i + 64, i + 65, len(b)} {
			if j = min(j, len(b)); Of(b[:i], b[i:j], b[j:]) != library(b) {
				t.Errorf("cut at %d and %d it has another hash", i, j)
			}
		}
	}
}

func TestCopyGoesItsOwnWay(t *testing.T) {
	one := New()
	one.Write("one")
	other := one
	other.Write("other")
	one.Write("more")
	if one.Sum() != library("onemore") || other.Sum() != library("oneother") {
		t.Error("a copy shares bytes with what it was copied from")
	}
}

func BenchmarkBlock(b *testing.B) {
	piece := sample(55)
	for b.Loop() {
		Of(piece)
	}
}
