package verify

import (
	"iter"
	"slices"
	"strings"
	"testing"

	"lintel/octets"
)

func keyOf(t *testing.T, tree, chains int) key {
	t.Helper()
	k, ok := readKey(octets.U32(tree) + octets.U32(chains) + strings.Repeat("i", 16) + strings.Repeat("r", 32))
	if !ok {
		t.Fatalf("no key of the tree %d and the chains %d", tree, chains)
	}
	return k
}

func TestKindsOfKeys(t *testing.T) {
	for tree, height := range map[int]int{5: 5, 226: 2} {
		for chains, want := range map[int][3]int{2: {2, 133, 6}, 3: {4, 67, 4}, 4: {8, 34, 0}} {
			k := keyOf(t, tree, chains)
			if got := [3]int{k.width, k.count, k.shift}; k.height != height || got != want {
				t.Errorf("tree %d, chains %d: height %d, width, count and shift %v", tree, chains, k.height, got)
			}
			if k.id != strings.Repeat("i", 16) || k.root != strings.Repeat("r", 32) {
				t.Errorf("tree %d, chains %d: another id or root", tree, chains)
			}
		}
	}
}

func TestDigits(t *testing.T) {
	for _, c := range []struct {
		width int
		want  []int
	}{
		{2, []int{2, 2, 0, 3, 0, 0, 3, 3}}, {4, []int{10, 3, 0, 15}}, {8, []int{163, 15}},
	} {
		if got := slices.Collect(digits("\xa3\x0f", c.width)); !slices.Equal(got, c.want) {
			t.Errorf("width %d: digits %v, want %v", c.width, got, c.want)
		}
	}
}

func TestDigitsOfTheSum(t *testing.T) {
	for _, c := range []struct {
		chains, digits int
		byte           string
		want           []int // behind the digits of the hash
	}{
		{2, 128, "\x00", []int{1, 2, 0, 0, 0}}, // 128 times 3 times 64: 6000
		{3, 64, "\x00", []int{3, 12, 0}},
		{4, 32, "\x00", []int{0x1f, 0xe0}}, // 32 times 255: 1fe0
		{2, 128, "\xff", []int{0, 0, 0, 0, 0}},
		{3, 64, "\xff", []int{0, 0, 0}},
		{4, 32, "\xff", []int{0, 0}},
		{3, 64, "\x0f", []int{1, 14, 0}}, // 32 times 15 times 16: 1e00
	} {
		got := keyOf(t, 5, c.chains).digitsOf(strings.Repeat(c.byte, 32))
		if len(got) != c.digits+len(c.want) || !slices.Equal(got[c.digits:], c.want) {
			t.Errorf("chains %d, bytes %x: %v, want %v behind %d digits", c.chains, c.byte, got, c.want, c.digits)
		}
	}
}

func TestSteps(t *testing.T) {
	for _, c := range []struct {
		chains, digit int
		want          []int
	}{
		{3, 13, []int{13, 14}}, {3, 14, []int{14}}, {3, 15, nil}, {2, 0, []int{0, 1, 2}}, {2, 3, nil}, {4, 253, []int{253, 254}}, {4, 255, nil},
	} {
		if got := slices.Collect(keyOf(t, 5, c.chains).steps(c.digit)); !slices.Equal(got, c.want) {
			t.Errorf("chains %d, digit %d: steps %v, want %v", c.chains, c.digit, got, c.want)
		}
	}
}

// numbered: so many times 32 bytes, each its own number.
func numbered(n int) string {
	var all strings.Builder
	for i := range n {
		all.WriteString(strings.Repeat(octets.U8(i), 32))
	}
	return all.String()
}

func TestSharesHoldEachChainOnce(t *testing.T) {
	for chains := 2; chains <= 4; chains++ {
		k := keyOf(t, 226, chains)
		s := signature{key: k, links: numbered(k.count)}
		seen := make([]int, k.count)
		for share := range shares {
			for i, link := range s.shareOf(share) {
				seen[i]++
				if link != strings.Repeat(octets.U8(i), 32) {
					t.Errorf("chains %d: the chain %d stands at %x", chains, i, link)
				}
			}
		}
		if slices.Min(seen) != 1 || slices.Max(seen) != 1 {
			t.Errorf("chains %d: the chains are dealt %v times", chains, seen)
		}
	}
}

func TestWay(t *testing.T) {
	s := signature{key: keyOf(t, 5, 3), path: numbered(5)}
	var numbers, beside []int
	for n, node := range s.way(32 + 21) {
		numbers = append(numbers, n)
		beside = append(beside, int(node[0]))
	}
	if !slices.Equal(numbers, []int{53, 26, 13, 6, 3}) || !slices.Equal(beside, []int{0, 1, 2, 3, 4}) {
		t.Errorf("the way goes over %v, beside %v", numbers, beside)
	}
}

func TestIteratorsStopWhenAsked(t *testing.T) {
	k := keyOf(t, 5, 3)
	s := signature{key: k, links: numbered(k.count), path: numbered(k.height)}
	// An iterator that goes on behind a break panics.
	for range digits("ab", 4) {
		break
	}
	for range k.steps(0) {
		break
	}
	for _, pairs := range []iter.Seq2[int, string]{s.shareOf(0), s.way(32)} {
		for range pairs {
			break
		}
	}
}
