package tree

import (
	"math/bits"

	"amnesia/api"
)

// heights: no size has more binary digits.
const heights = 63

// Tree is a log that grows, by its leaves. New makes one.
type Tree struct {
	leaves []api.Hash
	edge   [heights]api.Hash // the full trees that the leaves come to, greatest on the left: where the size has the binary digit h, the Head of one with 2^h leaves; else zero
}

// New: without entries.
func New() *Tree { return &Tree{} }

// Add: the next entry. Its place is answered.
func (t *Tree) Add(e api.Entry) int {
	if t == nil {
		return 0
	}
	leaf := Leaf(e)
	t.carry(leaf)
	t.leaves = append(t.leaves, leaf)
	return len(t.leaves)
}

// carry puts one leaf more to the edge, as 1 is put to a binary number: two full trees of one height are one of the next.
func (t *Tree) carry(full api.Hash) {
	size := len(t.leaves)
	for h := range heights {
		if size>>h&1 == 0 {
			t.edge[h] = full
			return
		}
		full = Node(t.edge[h], full)
		t.edge[h] = api.Hash{}
	}
}

// Size: how many entries it has.
func (t *Tree) Size() int {
	if t == nil {
		return 0
	}
	return len(t.leaves)
}

// Head: of all entries.
func (t *Tree) Head() api.Hash {
	size := t.Size()
	if size == 0 {
		return headOf(nil)
	}
	last := bits.TrailingZeros(uint(size))
	head := t.edge[last]
	for h := range heights {
		if h > last && size>>h&1 == 1 {
			head = Node(t.edge[h], head)
		}
	}
	return head
}

// HeadAt: of the first n. ErrSize: it has not as many.
func (t *Tree) HeadAt(n int) (api.Hash, api.Errno) {
	if !t.has(n) {
		return api.Hash{}, api.ErrSize
	}
	return headOf(t.first(n)), api.OK
}

// Inclusion: the path of a place among the first size. ErrSize: it has not as many; ErrPlace: they do not have it.
func (t *Tree) Inclusion(place, size int) ([]api.Hash, api.Errno) {
	if !t.has(size) {
		return nil, api.ErrSize
	}
	return inclusion(t.first(size), place)
}

// Consistency: the path from the first m to the first n. ErrSize: it has not as many, or the n have not m.
func (t *Tree) Consistency(m, n int) ([]api.Hash, api.Errno) {
	if !t.has(n) {
		return nil, api.ErrSize
	}
	return consistency(t.first(n), m)
}

// has: are there n entries?
func (t *Tree) has(n int) bool { return n >= 0 && n <= t.Size() }

// first: the leaves of the first n that there are.
func (t *Tree) first(n int) []api.Hash {
	if t == nil {
		return nil
	}
	return t.leaves[:n]
}
