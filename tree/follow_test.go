package tree_test

import (
	"fmt"
	"slices"
	"testing"

	"amnesia/api"
	"amnesia/tree"
)

// P20.8: what is proved is taken.

func TestProvedIsTaken(t *testing.T) {
	r := seeded(50)
	for range 150 {
		var l []api.Entry
		for range 1 + r.IntN(90) {
			l = append(l, someEntry(r))
		}
		head, place, m := tree.Head(l), 1+r.IntN(len(l)), r.IntN(len(l)+1)
		path, _ := tree.Inclusion(l, place)
		expectIncluded(t, api.OK, head, len(l), place, l[place-1], path)
		path, _ = tree.Consistency(l, m)
		expectExtends(t, api.OK, tree.Head(l[:m]), m, head, len(l), path)
	}
}

func TestWhatATreeProvesIsTaken(t *testing.T) {
	l := logOf(300)
	x := grown(l)
	r := seeded(51)
	for range 500 {
		n := 1 + r.IntN(len(l))
		place, m := 1+r.IntN(n), r.IntN(n+1)
		head, _ := x.HeadAt(n)
		old, _ := x.HeadAt(m)
		path, _ := x.Inclusion(place, n)
		expectIncluded(t, api.OK, head, n, place, l[place-1], path)
		path, _ = x.Consistency(m, n)
		expectExtends(t, api.OK, old, m, head, n, path)
	}
}

// P20.9: what is taken is true. Nobody has two texts with one digest at hand, so that nothing untrue may be taken here.

// alphabet: entries that differ in little, some of which have the same bytes in other places.
var alphabet = []api.Entry{
	{},
	{Client: 1},
	{Number: 1},
	{Op: api.Op{Kind: 1}},
	{Op: api.Op{Slot: 1}},
	{Op: api.Op{Value: "\x01"}},
	{Op: api.Op{Value: "\x00"}},
	{Client: 1, Number: 1, Op: api.Op{Kind: 1, Slot: 1, Value: "\x01\x01"}},
	{Client: -1},
}

// words: every log of that length over the first so many of the alphabet.
func words(length, letters int) [][]api.Entry {
	all := [][]api.Entry{nil}
	for range length {
		var longer [][]api.Entry
		for _, l := range all {
			for _, e := range alphabet[:letters] {
				longer = append(longer, append(slices.Clone(l), e))
			}
		}
		all = longer
	}
	return all
}

// All paths that all logs of one length have, offered to each of their heads with each of their entries.
func TestNothingUntrueIsIncluded(t *testing.T) {
	for n := 1; n <= 5; n++ {
		logs := words(n, 2)
		for place := 1; place <= n; place++ {
			var paths [][]api.Hash
			for _, l := range logs {
				path, _ := tree.Inclusion(l, place)
				paths = append(paths, path)
			}
			for _, l := range logs {
				head := tree.Head(l)
				for _, path := range paths {
					for _, e := range alphabet[:3] {
						if tree.Included(head, n, place, e, path) == api.OK && e != l[place-1] {
							t.Fatal("an entry that is not there:", l, place, e)
						}
					}
				}
			}
		}
	}
}

// Paths made of digests that one comes by at the log: leaves, heads of its parts, nodes of these.
func TestNothingUntrueIsIncludedByMadePaths(t *testing.T) {
	r := seeded(52)
	for range 6000 {
		n := 1 + r.IntN(9)
		l := logOf(n)
		pool := []api.Hash{{}, tree.Head(nil), tree.Leaf(stranger)}
		for from := range n {
			for to := from + 1; to <= n; to++ {
				pool = append(pool, tree.Head(l[from:to]))
			}
		}
		pool = append(pool, tree.Node(pool[1], pool[2]))
		place := 1 + r.IntN(n)
		path := make([]api.Hash, len(modelInclusion(listed(l), 0, n, place)))
		for i := range path {
			path[i] = pool[r.IntN(len(pool))]
		}
		for _, e := range append(slices.Clone(l), stranger) {
			if tree.Included(tree.Head(l), n, place, e, path) == api.OK && e != l[place-1] {
				t.Fatal("an entry that is not there:", n, place, e)
			}
		}
	}
}

// The lesser log of one kind, the greater of another, with the paths of all: taken is only what begins the other.
func TestNothingUntrueIsExtended(t *testing.T) {
	for n := 1; n <= 5; n++ {
		logs := words(n, 2)
		for m := 1; m <= n; m++ {
			var paths [][]api.Hash
			for _, l := range logs {
				path, _ := tree.Consistency(l, m)
				paths = append(paths, path)
			}
			for _, lesser := range words(m, 2) {
				old := tree.Head(lesser)
				for _, l := range logs {
					head := tree.Head(l)
					taken := slices.ContainsFunc(paths, func(path []api.Hash) bool {
						return tree.Extends(old, m, head, n, path) == api.OK
					})
					if taken != slices.Equal(lesser, l[:m]) {
						t.Fatal("taken is", taken, "of", lesser, l)
					}
				}
			}
		}
	}
}

// Greater logs that part at one place from the beginning on: no path of either is taken.
func TestPartedLogsAreNotExtended(t *testing.T) {
	for n := 2; n <= 24; n++ {
		l := logOf(n)
		for m := 1; m <= n; m++ {
			path, _ := tree.Consistency(l, m)
			for at := range m {
				other := slices.Clone(l)
				other[at] = stranger
				otherPath, _ := tree.Consistency(other, m)
				for _, p := range [][]api.Hash{path, otherPath} {
					expectExtends(t, api.ErrHead, tree.Head(l[:m]), m, tree.Head(other), n, p)
					expectExtends(t, api.ErrHead, tree.Head(other[:m]), m, tree.Head(l), n, p)
				}
			}
		}
	}
}

// A node is no leaf: a beginning of the way up is not taken for an entry's.
func TestALeafIsNoNode(t *testing.T) {
	l := logOf(8)
	for _, e := range append(slices.Clone(l), stranger) {
		for _, a := range l {
			for _, b := range l {
				if tree.Leaf(e) == tree.Node(tree.Leaf(a), tree.Leaf(b)) {
					t.Fatal("a leaf is a node")
				}
			}
		}
	}
	left, right := tree.Leaf(l[0]), tree.Leaf(l[1])
	both := string(slices.Concat(left[:], right[:]))
	for _, value := range []string{both, "\x01" + both} {
		e := api.Entry{Op: api.Op{Value: value}}
		expectIncluded(t, api.ErrHead, tree.Head(l[:4]), 2, 1, e, []api.Hash{tree.Head(l[2:4])})
	}
}

// P20.11: logs of one length and unlike entries have unlike heads.

func TestUnlikeLogsHaveUnlikeHeads(t *testing.T) {
	for _, c := range [][2]int{{0, 9}, {1, 9}, {2, 9}, {3, 9}, {4, 4}, {7, 2}} {
		logs := words(c[0], c[1])
		heads := map[api.Hash]int{}
		for i, l := range logs {
			h := tree.Head(l)
			if j, is := heads[h]; is {
				t.Fatal("one head:", l, logs[j])
			}
			heads[h] = i
		}
	}
}

// One place of a log changed, or two exchanged, at every length.
func TestHeadsOfLogsThatDifferInLittle(t *testing.T) {
	for n := 1; n <= 33; n++ {
		l := logOf(n)
		heads := map[api.Hash]string{tree.Head(l): "the log"}
		tell := func(name string, other []api.Entry) {
			h := tree.Head(other)
			if like, is := heads[h]; is {
				t.Fatal(n, name, "has the head of", like)
			}
			heads[h] = name
		}
		for i := range l {
			other := slices.Clone(l)
			other[i] = stranger
			tell(fmt.Sprint("changed at ", i), other)
			for j := range i {
				other := slices.Clone(l)
				other[i], other[j] = other[j], other[i]
				tell(fmt.Sprint("exchanged ", i, " and ", j), other)
			}
		}
	}
}

func TestUnlikeEntriesHaveUnlikeLeaves(t *testing.T) {
	leaves := map[api.Hash]api.Entry{}
	tell := func(e api.Entry) {
		h := tree.Leaf(e)
		if other, is := leaves[h]; is && other != e {
			t.Fatal("one leaf:", e, other)
		}
		leaves[h] = e
	}
	for _, a := range edges {
		for _, b := range edges {
			tell(api.Entry{Client: a, Number: b})
			tell(api.Entry{Client: a, Op: api.Op{Kind: b}})
			tell(api.Entry{Number: a, Op: api.Op{Slot: b}})
			tell(api.Entry{Op: api.Op{Kind: a, Slot: b}})
			tell(api.Entry{Op: api.Op{Slot: a, Value: string(numbered(nil, uint64(b)))}})
		}
	}
	for n := range 300 {
		tell(api.Entry{Op: api.Op{Value: string(make([]byte, n))}})
	}
}
