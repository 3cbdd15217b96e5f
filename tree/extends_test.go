package tree_test

import (
	"fmt"
	"slices"
	"testing"

	"amnesia/api"
	"amnesia/tree"
)

// P20.5: Extends, and of P20.8 what concerns it.

// bridges goes through every m and n with m at most n, and n at most most, with the heads and the path.
func bridges(most int, do func(old api.Hash, m int, head api.Hash, n int, path []api.Hash)) {
	l := logOf(most)
	for n := range most + 1 {
		for m := range n + 1 {
			path, _ := tree.Consistency(l[:n], m)
			do(tree.Head(l[:m]), m, tree.Head(l[:n]), n, path)
		}
	}
}

func TestExtendsTakesEveryPath(t *testing.T) {
	bridges(40, func(old api.Hash, m int, head api.Hash, n int, path []api.Hash) {
		expectExtends(t, api.OK, old, m, head, n, path)
	})
}

func TestExtendsWithOtherHeads(t *testing.T) {
	none := tree.Head(nil)
	bridges(40, func(old api.Hash, m int, head api.Hash, n int, path []api.Hash) {
		for _, other := range []api.Hash{{}, flipped(old, 3), flipped(old, 250), flipped(head, 9), none, tree.Leaf(stranger), head} {
			if other != old {
				expectExtends(t, api.ErrHead, other, m, head, n, path)
			}
		}
		for _, other := range []api.Hash{{}, flipped(head, 3), flipped(head, 250), flipped(old, 9), none, tree.Leaf(stranger), old} {
			if other == head {
				continue
			}
			want := api.ErrHead
			if m == 0 && n > 0 {
				want = api.OK
			}
			expectExtends(t, want, old, m, other, n, path)
		}
	})
}

func TestExtendsWithASpoiltPath(t *testing.T) {
	bridges(40, func(old api.Hash, m int, head api.Hash, n int, path []api.Hash) {
		changed, longer, shorter, exchanged := spoilt(path)
		for _, other := range slices.Concat(changed, exchanged) {
			expectExtends(t, api.ErrHead, old, m, head, n, other)
		}
		for _, other := range slices.Concat(longer, shorter) {
			expectExtends(t, api.ErrProof, old, m, head, n, other)
		}
	})
}

// With other sizes: the error that the chapter's words name, or none, where the ways up are the same.
func TestExtendsWithOtherSizes(t *testing.T) {
	bridges(20, func(old api.Hash, m int, head api.Hash, n int, path []api.Hash) {
		for otherM := -1; otherM <= 22; otherM++ {
			for otherN := -1; otherN <= 22; otherN++ {
				want := modelExtends(old, otherM, head, otherN, path)
				if (otherM < 0 || otherN < otherM) != (want == api.ErrSize) {
					t.Fatal("the model is wrong:", otherM, otherN, want)
				}
				expectExtends(t, want, old, otherM, head, otherN, path)
			}
		}
		for _, other := range []int{-1, -2, least + 1, least} {
			expectExtends(t, api.ErrSize, old, other, head, n, path)
			expectExtends(t, api.ErrSize, old, m, head, other, path)
			expectExtends(t, api.ErrSize, old, other, head, other, path)
		}
		if n > m {
			expectExtends(t, api.ErrSize, head, n, old, m, path)
		}
	})
}

func TestExtendsEachBitTurned(t *testing.T) {
	l := logOf(13)
	for _, m := range []int{4, 6, 8, 12} {
		old, head := tree.Head(l[:m]), tree.Head(l)
		path, _ := tree.Consistency(l, m)
		for bit := range 256 {
			for i := range path {
				other := slices.Clone(path)
				other[i] = flipped(other[i], bit)
				expectExtends(t, api.ErrHead, old, m, head, 13, other)
			}
			expectExtends(t, api.ErrHead, flipped(old, bit), m, head, 13, path)
			expectExtends(t, api.ErrHead, old, m, flipped(head, bit), 13, path)
		}
	}
}

// From no entries on: old must be the Head of none; head is not asked, unless n is 0 too.
func TestExtendsFromNothing(t *testing.T) {
	r := seeded(30)
	none := tree.Head(nil)
	for _, n := range append([]int{1, 2, 3, 7, 8, 9}, greatSizes...) {
		for _, head := range []api.Hash{{}, none, tree.Head(logOf(3)), someHash(r)} {
			expectExtends(t, api.OK, none, 0, head, n, nil)
			expectExtends(t, api.OK, none, 0, head, n, []api.Hash{})
			expectExtends(t, api.ErrHead, api.Hash{}, 0, head, n, nil)
			expectExtends(t, api.ErrHead, someHash(r), 0, head, n, nil)
			expectExtends(t, api.ErrProof, none, 0, head, n, somePath(r, 1))
			expectExtends(t, api.ErrProof, someHash(r), 0, head, n, somePath(r, 63))
		}
	}
	h := someHash(r)
	expectExtends(t, api.OK, none, 0, none, 0, nil)
	expectExtends(t, api.ErrHead, h, 0, none, 0, nil)
	expectExtends(t, api.ErrHead, none, 0, h, 0, nil)
	expectExtends(t, api.ErrHead, h, 0, h, 0, nil)
	expectExtends(t, api.ErrHead, api.Hash{}, 0, api.Hash{}, 0, nil)
	expectExtends(t, api.ErrProof, none, 0, none, 0, somePath(r, 1))
}

// Of one size: the heads must be the same, and nothing else is asked of them.
func TestExtendsToTheSameSize(t *testing.T) {
	r := seeded(31)
	for _, n := range append([]int{1, 2, 3, 4, 5, 40}, greatSizes...) {
		a, b := someHash(r), someHash(r)
		expectExtends(t, api.OK, a, n, a, n, nil)
		expectExtends(t, api.OK, api.Hash{}, n, api.Hash{}, n, nil)
		expectExtends(t, api.ErrHead, a, n, b, n, nil)
		expectExtends(t, api.ErrHead, a, n, flipped(a, n%256), n, nil)
		expectExtends(t, api.ErrProof, a, n, a, n, []api.Hash{a})
		expectExtends(t, api.ErrProof, a, n, b, n, somePath(r, 2))
	}
}

// The first error that holds is the answer.
func TestExtendsOrderOfErrors(t *testing.T) {
	r := seeded(32)
	for _, c := range [][2]int{{-1, 3}, {-1, -1}, {-1, -2}, {least, greatest}, {greatest, least}, {3, 2}, {1, 0}, {0, -1}, {greatest, greatest - 1}, {1 << 62, 1<<62 - 1}, {least, least}} {
		for _, n := range []int{0, 1, 2, 64} {
			expectExtends(t, api.ErrSize, someHash(r), c[0], someHash(r), c[1], somePath(r, n))
		}
	}
	expectExtends(t, api.ErrProof, someHash(r), 2, someHash(r), 3, somePath(r, 2))
	expectExtends(t, api.ErrProof, someHash(r), 2, someHash(r), 3, nil)
	expectExtends(t, api.ErrHead, someHash(r), 2, someHash(r), 3, somePath(r, 1))
}

// pairs: great sizes, one at most the other.
func pairs() [][2]int {
	var l [][2]int
	for _, n := range greatSizes {
		k := below(n)
		for _, m := range []int{1, 2, 3, 5, 1 << 20, k / 2, k/2 + 1, k - 1, k, min(k+1, n), n / 3, n / 2, n - 2, n - 1, n} {
			l = append(l, [2]int{m, n})
		}
	}
	return l
}

func TestExtendsOfGreatSizes(t *testing.T) {
	r := seeded(33)
	for _, c := range pairs() {
		old, head, lengths := someHash(r), someHash(r), 0
		for n := range 70 {
			path := somePath(r, n)
			want := modelExtends(old, c[0], head, c[1], path)
			if want == api.ErrHead {
				lengths++
			}
			expectExtends(t, want, old, c[0], head, c[1], path)
		}
		if lengths != 1 {
			t.Fatal(c, lengths)
		}
		expectExtends(t, api.ErrProof, old, c[0], head, c[1], somePath(r, 1000))
	}
}

// What is proved of logs that are too long to be had is taken, too.
func TestExtendsTakesPathsOfGreatLogs(t *testing.T) {
	longest := 0
	for _, c := range pairs() {
		m, n := c[0], c[1]
		h := great(entry(0), map[int]api.Entry{m: stranger, n/2 + 1: entry(1)})
		old, head, path := h(0, m), h(0, n), modelConsistency(h, m, n)
		longest = max(longest, len(path))
		expectExtends(t, api.OK, old, m, head, n, path)
		expectExtends(t, api.ErrHead, flipped(old, 77), m, head, n, path)
		expectExtends(t, api.ErrHead, old, m, flipped(head, 77), n, path)
		changed, longer, shorter, exchanged := spoilt(path)
		for i := range changed {
			expectExtends(t, api.ErrHead, old, m, head, n, changed[i])
			expectExtends(t, api.ErrProof, old, m, head, n, shorter[i])
			expectExtends(t, api.ErrProof, old, m, head, n, longer[i])
		}
		for _, other := range exchanged[:min(40, len(exchanged))] {
			expectExtends(t, api.ErrHead, old, m, head, n, other)
		}
	}
	if longest != 64 {
		t.Fatal(fmt.Sprint("the longest path has ", longest))
	}
}
