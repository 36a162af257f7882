package lintel_test

import (
	"bytes"
	"crypto/sha256"
	"encoding/binary"
	"fmt"
)

// A signer for the tests, by the library's hash: it shares nothing with what is tested.

type kind struct{ tree, chains, height, width, count, shift int }

func (k kind) String() string { return fmt.Sprintf("tree %d, chains %d", k.tree, k.chains) }

var kinds = []kind{
	{5, 2, 5, 2, 133, 6}, {5, 3, 5, 4, 67, 4}, {5, 4, 5, 8, 34, 0},
	{226, 2, 2, 2, 133, 6}, {226, 3, 2, 4, 67, 4}, {226, 4, 2, 8, 34, 0},
}

func u8(n int) []byte  { return []byte{byte(n)} }
func u16(n int) []byte { return binary.BigEndian.AppendUint16(nil, uint16(n)) }
func u32(n int) []byte { return binary.BigEndian.AppendUint32(nil, uint32(n)) }

func hashOf(pieces ...[]byte) []byte {
	sum := sha256.Sum256(bytes.Join(pieces, nil))
	return sum[:]
}

type signer struct {
	kind
	id, seed []byte
	nodes    [][]byte // from 1, the root, on
}

func newSigner(k kind, seed string) *signer {
	s := &signer{kind: k, id: hashOf([]byte("id of "), []byte(seed))[:16], seed: []byte(seed), nodes: make([][]byte, 2<<k.height)}
	leaves := 1 << k.height
	for q := range leaves {
		s.nodes[leaves+q] = s.leaf(q)
	}
	for n := leaves - 1; n > 0; n-- {
		s.nodes[n] = s.parent(n, s.nodes[2*n], s.nodes[2*n+1])
	}
	return s
}

func (s *signer) leaf(q int) []byte {
	var ends []byte
	for i := range s.count {
		ends = append(ends, s.chain(q, i, 1<<s.width-1)...)
	}
	return hashOf(s.id, u32(1<<s.height+q), u16(0x8282), hashOf(s.id, u32(q), u16(0x8080), ends))
}

func (s *signer) parent(n int, left, right []byte) []byte {
	return hashOf(s.id, u32(n), u16(0x8383), left, right)
}

// chain: where a chain stands when it was gone on so often.
func (s *signer) chain(q, i, often int) []byte {
	y := hashOf(s.seed, u32(q), u16(i))
	for j := range often {
		y = hashOf(s.id, u32(q), u16(i), u8(j), y)
	}
	return y
}

func (s *signer) key() string {
	return string(bytes.Join([][]byte{u32(s.tree), u32(s.chains), s.id, s.nodes[1]}, nil))
}

func (s *signer) hashOfMessage(q int, salt []byte, message string) []byte {
	return hashOf(s.id, u32(q), u16(0x8181), salt, []byte(message))
}

// digits: bit by bit, otherwise than the program goes over them.
func (s *signer) digits(b []byte) []int {
	var found []int
	digit := 0
	for at := range 8 * len(b) {
		digit = 2*digit + int(b[at/8]>>(7-at%8)&1)
		if (at+1)%s.width == 0 {
			found = append(found, digit)
			digit = 0
		}
	}
	return found
}

func (s *signer) signSalted(q int, salt []byte, message string) string {
	hash := s.hashOfMessage(q, salt, message)
	sum := 0
	for _, digit := range s.digits(hash) {
		sum += 1<<s.width - 1 - digit
	}
	digits := s.digits(append(hash, u16(sum<<s.shift)...))
	out := bytes.Join([][]byte{u32(q), u32(s.chains), salt}, nil)
	for i := range s.count {
		out = append(out, s.chain(q, i, digits[i])...)
	}
	out = append(out, u32(s.tree)...)
	for n := 1<<s.height + q; n > 1; n /= 2 {
		out = append(out, s.nodes[n^1]...)
	}
	return string(out)
}

func (s *signer) sign(q int, message string) string {
	return s.signSalted(q, hashOf([]byte("salt"), []byte(message)), message)
}
