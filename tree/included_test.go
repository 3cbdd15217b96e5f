package tree_test

import (
	"slices"
	"testing"

	"amnesia/api"
	"amnesia/tree"
)

// P20.4: Included, and of P20.8 what concerns it.

func TestIncludedTakesEveryPath(t *testing.T) {
	for n := range 41 {
		l := logOf(n)
		head := tree.Head(l)
		for place := 1; place <= n; place++ {
			path, _ := tree.Inclusion(l, place)
			expectIncluded(t, api.OK, head, n, place, l[place-1], path)
		}
	}
}

// every goes through every place of every log of 1 to n entries, with its path.
func every(n int, do func(l []api.Entry, head api.Hash, place int, path []api.Hash)) {
	for size := 1; size <= n; size++ {
		l := logOf(size)
		head := tree.Head(l)
		for place := 1; place <= size; place++ {
			path, _ := tree.Inclusion(l, place)
			do(l, head, place, path)
		}
	}
}

func TestIncludedWithAnotherEntry(t *testing.T) {
	every(40, func(l []api.Entry, head api.Hash, place int, path []api.Hash) {
		others := []api.Entry{{}, stranger, l[place%len(l)]}
		for field := range 5 {
			e := l[place-1]
			switch field {
			case 0:
				e.Client++
			case 1:
				e.Number--
			case 2:
				e.Op.Kind++
			case 3:
				e.Op.Slot = -e.Op.Slot - 1
			case 4:
				e.Op.Value += "x"
			}
			others = append(others, e)
		}
		for _, e := range others {
			if e != l[place-1] {
				expectIncluded(t, api.ErrHead, head, len(l), place, e, path)
			}
		}
	})
}

func TestIncludedWithAnotherHead(t *testing.T) {
	every(40, func(l []api.Entry, head api.Hash, place int, path []api.Hash) {
		leaf := tree.Leaf(l[place-1])
		for _, other := range []api.Hash{{}, flipped(head, 0), flipped(head, 255), tree.Head(nil), tree.Head(l[1:]), leaf} {
			if other != head {
				expectIncluded(t, api.ErrHead, other, len(l), place, l[place-1], path)
			}
		}
	})
}

// The error is ErrProof, where that place's path is of another length, else ErrHead.
func TestIncludedWithAnotherPlace(t *testing.T) {
	every(40, func(l []api.Entry, head api.Hash, place int, path []api.Hash) {
		for other := 1; other <= len(l); other++ {
			if other == place {
				continue
			}
			want := api.ErrHead
			if p, _ := tree.Inclusion(l, other); len(p) != len(path) {
				want = api.ErrProof
			}
			expectIncluded(t, want, head, len(l), other, l[place-1], path)
		}
		for _, other := range append([]int{0, len(l) + 1}, wrong...) {
			expectIncluded(t, api.ErrPlace, head, len(l), other, l[place-1], path)
		}
	})
}

// A size whose tree has the same way from that place up can't be told apart by the path alone: what is asked is the chapter's words.
func TestIncludedWithAnotherSize(t *testing.T) {
	every(40, func(l []api.Entry, head api.Hash, place int, path []api.Hash) {
		for size := -1; size <= 45; size++ {
			want := modelIncluded(head, size, place, l[place-1], path)
			switch {
			case size < 1 && want != api.ErrSize, size >= 1 && size < place && want != api.ErrPlace:
				t.Fatal("the model is wrong:", size, place, want)
			}
			expectIncluded(t, want, head, size, place, l[place-1], path)
		}
	})
	l := logOf(3)
	path, _ := tree.Inclusion(l, 1)
	expectIncluded(t, api.OK, tree.Head(l), 4, 1, l[0], path)
	expectIncluded(t, api.ErrHead, tree.Head(l), 3, 2, l[0], path)
	expectIncluded(t, api.ErrProof, tree.Head(l), 5, 1, l[0], path)
	expectIncluded(t, api.ErrProof, tree.Head(l), 2, 1, l[0], path)
}

func TestIncludedWithASpoiltPath(t *testing.T) {
	every(40, func(l []api.Entry, head api.Hash, place int, path []api.Hash) {
		changed, longer, shorter, exchanged := spoilt(path)
		for _, other := range slices.Concat(changed, exchanged) {
			expectIncluded(t, api.ErrHead, head, len(l), place, l[place-1], other)
		}
		for _, other := range slices.Concat(longer, shorter) {
			expectIncluded(t, api.ErrProof, head, len(l), place, l[place-1], other)
		}
		if slices.Reverse(path); len(path) > 1 {
			expectIncluded(t, api.ErrHead, head, len(l), place, l[place-1], path)
		}
	})
}

// Every bit of every digest counts.
func TestIncludedWithEachBitTurned(t *testing.T) {
	l := logOf(11)
	head := tree.Head(l)
	path, _ := tree.Inclusion(l, 6)
	for bit := range 256 {
		for i := range path {
			other := slices.Clone(path)
			other[i] = flipped(other[i], bit)
			expectIncluded(t, api.ErrHead, head, 11, 6, l[5], other)
		}
		expectIncluded(t, api.ErrHead, flipped(head, bit), 11, 6, l[5], path)
	}
}

// The first error that holds is the answer.
func TestIncludedOrderOfErrors(t *testing.T) {
	r := seeded(20)
	for _, size := range []int{0, -1, -5, least} {
		for _, place := range append([]int{0, 1, 2, -1}, wrong...) {
			for n := range 3 {
				expectIncluded(t, api.ErrSize, someHash(r), size, place, stranger, somePath(r, n))
			}
		}
	}
	for _, size := range []int{1, 2, 7, 1 << 62, greatest - 1} {
		for _, place := range []int{0, -1, least, size + 1, greatest} {
			for _, n := range []int{0, 1, 3, 62, 63, 64} {
				expectIncluded(t, api.ErrPlace, someHash(r), size, place, stranger, somePath(r, n))
			}
		}
	}
	expectIncluded(t, api.ErrPlace, api.Hash{}, greatest, 0, stranger, nil)
	expectIncluded(t, api.ErrPlace, api.Hash{}, greatest, least, stranger, nil)
	expectIncluded(t, api.ErrProof, api.Hash{}, 1, 1, stranger, somePath(r, 1))
	expectIncluded(t, api.ErrProof, api.Hash{}, 3, 1, stranger, somePath(r, 1))
	expectIncluded(t, api.ErrHead, api.Hash{}, 1, 1, stranger, nil)
	expectIncluded(t, api.ErrHead, api.Hash{}, 3, 1, stranger, somePath(r, 2))
}

// greatSizes: sizes that no list has.
var greatSizes = []int{1 << 31, 1<<40 + 1, 1<<61 + 12345, 1<<62 - 1, 1 << 62, 1<<62 + 1, 3 << 61, greatest - 1, greatest}

// placesOf: some places of a great size.
func placesOf(size int) []int {
	k := below(size)
	return []int{1, 2, 3, k/2 + 1, k - 1, k, k/3*2 + 1, min(k+1, size), size/2 + 1, size - 2, size - 1, size}
}

// Paths of any length for great sizes: only one of them is not ErrProof.
func TestIncludedOfGreatSizes(t *testing.T) {
	r := seeded(21)
	for _, size := range greatSizes {
		for _, place := range placesOf(size) {
			lengths := 0
			for n := range 70 {
				path := somePath(r, n)
				want := modelIncluded(api.Hash{}, size, place, stranger, path)
				if want == api.ErrHead {
					lengths++
				}
				expectIncluded(t, want, api.Hash{}, size, place, stranger, path)
			}
			if lengths != 1 {
				t.Fatal(size, place, lengths)
			}
			expectIncluded(t, api.ErrProof, api.Hash{}, size, place, stranger, somePath(r, 1000))
		}
	}
}

// What is proved of logs that are too long to be had is taken, too.
func TestIncludedTakesPathsOfGreatLogs(t *testing.T) {
	for _, size := range greatSizes {
		for _, place := range placesOf(size) {
			h := great(entry(0), map[int]api.Entry{place: stranger, 1: entry(1), size / 2: entry(2)})
			if place == 1 || place == size/2 {
				h = great(entry(0), map[int]api.Entry{place: stranger})
			}
			head, path := h(0, size), modelInclusion(h, 0, size, place)
			expectIncluded(t, api.OK, head, size, place, stranger, path)
			expectIncluded(t, api.ErrHead, head, size, place, entry(0), path)
			changed, longer, shorter, exchanged := spoilt(path)
			for i := range changed {
				expectIncluded(t, api.ErrHead, head, size, place, stranger, changed[i])
				expectIncluded(t, api.ErrProof, head, size, place, stranger, shorter[i])
				expectIncluded(t, api.ErrProof, head, size, place, stranger, longer[i])
			}
			for _, other := range exchanged[:min(40, len(exchanged))] {
				expectIncluded(t, api.ErrHead, head, size, place, stranger, other)
			}
		}
	}
}
