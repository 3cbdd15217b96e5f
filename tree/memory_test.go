package tree_test

import (
	"slices"
	"sync"
	"testing"

	"amnesia/api"
	"amnesia/tree"
)

// P2 and P3 of DOC.md: whose memory is whose.

// room: a list with marks in the room behind it.
func room[T any](l []T, mark T) []T {
	return append(slices.Clone(l), slices.Repeat([]T{mark}, 90)...)[: len(l) : len(l)+90]
}

// whole: a list with what is in the room behind it.
func whole[T any](l []T) []T { return l[:cap(l)] }

func fill[T any](l []T, x T) {
	for i := range whole(l) {
		whole(l)[i] = x
	}
}

var mark = api.Hash{1, 2, 3}

func TestWhatIsHandedInStays(t *testing.T) {
	for n := range 34 {
		l := room(logOf(n), stranger)
		before := slices.Clone(whole(l))
		tree.Head(l)
		for at := -1; at <= n+1; at++ {
			tree.Inclusion(l, at)
			tree.Consistency(l, at)
		}
		if !slices.Equal(whole(l), before) {
			t.Fatal("a log was changed:", n)
		}
	}
}

func TestPathsHandedInStay(t *testing.T) {
	r := seeded(60)
	for n := range 66 {
		path := room(somePath(r, n), mark)
		before := slices.Clone(whole(path))
		for size := 1; size < 70; size++ {
			tree.Included(mark, size, 1+r.IntN(size), stranger, path)
			tree.Extends(mark, r.IntN(size+1), mark, size, path)
		}
		tree.Included(mark, greatest, 1, stranger, path)
		tree.Included(mark, greatest, 1<<62, stranger, path)
		tree.Extends(mark, 1<<62-1, mark, greatest, path)
		tree.Extends(mark, 1<<62, mark, greatest, path)
		if !slices.Equal(whole(path), before) {
			t.Fatal("a path was changed:", n)
		}
	}
	l := logOf(33)
	for place := range l {
		path, _ := tree.Inclusion(l, place+1)
		path = room(path, mark)
		before := slices.Clone(whole(path))
		expectIncluded(t, api.OK, tree.Head(l), 33, place+1, l[place], path)
		if !slices.Equal(whole(path), before) {
			t.Fatal("a path was changed:", place)
		}
	}
	for m := range l {
		path, _ := tree.Consistency(l, m)
		path = room(path, mark)
		before := slices.Clone(whole(path))
		expectExtends(t, api.OK, tree.Head(l[:m]), m, tree.Head(l), 33, path)
		if !slices.Equal(whole(path), before) {
			t.Fatal("a path was changed:", m)
		}
	}
}

// asking: the ways of asking for a path of a log, the Tree having grown beyond it or not.
func asking(l []api.Entry, x *tree.Tree) []func(at int) ([]api.Hash, api.Errno) {
	return []func(at int) ([]api.Hash, api.Errno){
		func(at int) ([]api.Hash, api.Errno) { return tree.Inclusion(l, at) },
		func(at int) ([]api.Hash, api.Errno) { return tree.Consistency(l, at) },
		func(at int) ([]api.Hash, api.Errno) { return x.Inclusion(at, len(l)) },
		func(at int) ([]api.Hash, api.Errno) { return x.Consistency(at, len(l)) },
	}
}

// Answers are the caller's: written over, with the room behind them, they are asked again as they were; and no two of them share any.
func TestAnswersAreTheCallers(t *testing.T) {
	x := grown(logOf(40))
	for n := range 34 {
		l := logOf(n)
		for which, ask := range asking(l, x) {
			for at := range n + 1 {
				first, e := ask(at)
				second, _ := ask(at)
				want := slices.Clone(first)
				fill(first, mark)
				again, eAgain := ask(at)
				if e != eAgain || !slices.Equal(second, want) || !slices.Equal(again, want) {
					t.Fatal("an answer is not the caller's:", which, n, at)
				}
				_ = append(again, mark, mark, mark)
				if !slices.Equal(second, want) {
					t.Fatal("two answers share their room:", which, n, at)
				}
			}
		}
	}
	expectSame(t, x, logOf(40))
}

// A path that was answered, and is added to by the caller while the Tree grows, changes nothing there.
func TestAnswersWrittenOverWhileItGrows(t *testing.T) {
	x, l := tree.New(), logOf(40)
	for i, e := range l {
		x.Add(e)
		for at := range i + 2 {
			path, _ := x.Inclusion(at, i+1)
			fill(append(path, mark), mark)
			fill(path, mark)
			path, _ = x.Consistency(at, i+1)
			fill(append(path, mark), mark)
			fill(path, mark)
		}
	}
	expectSame(t, x, l)
}

// A log that is written over behind the calls was not kept.
func TestNothingHandedInIsKept(t *testing.T) {
	l := room(logOf(37), stranger)
	x := grown(l)
	head := tree.Head(l)
	inclusion, _ := tree.Inclusion(l, 11)
	consistency, _ := tree.Consistency(l, 11)
	fill(l, stranger)
	own := logOf(37)
	expectHash(t, "Head", head, modelHead(own))
	expectPath(t, "Inclusion", inclusion, api.OK, modelInclusion(listed(own), 0, 37, 11))
	expectPath(t, "Consistency", consistency, api.OK, modelConsistency(listed(own), 11, 37))
	expectSame(t, x, own)
}

// nil and empty lists are the same.
func TestNilAndEmpty(t *testing.T) {
	expectHash(t, "Head", tree.Head([]api.Entry{}), tree.Head(nil))
	e := entry(1)
	for _, path := range [][]api.Hash{nil, {}, room(nil, mark)} {
		expectIncluded(t, api.OK, tree.Leaf(e), 1, 1, e, path)
		expectIncluded(t, api.ErrHead, mark, 1, 1, e, path)
		expectIncluded(t, api.ErrProof, mark, 2, 1, e, path)
		expectExtends(t, api.OK, mark, 5, mark, 5, path)
		expectExtends(t, api.OK, tree.Head(nil), 0, mark, 5, path)
		expectExtends(t, api.ErrProof, mark, 4, mark, 5, path)
	}
}

// The same is answered again, whatever was asked between, and however much room a list has.
func TestSameAnswersAgain(t *testing.T) {
	r := seeded(61)
	for range 60 {
		var l []api.Entry
		for range 1 + r.IntN(40) {
			l = append(l, someEntry(r))
		}
		with := room(l, stranger)
		expectHash(t, "Head", tree.Head(l), tree.Head(with))
		for at := range len(l) + 1 {
			a, eA := tree.Inclusion(l, at)
			b, eB := tree.Inclusion(with, at)
			expectAlike(t, "Inclusion", a, eA, b, eB)
			a, eA = tree.Consistency(l, at)
			b, eB = tree.Consistency(with, at)
			expectAlike(t, "Consistency", a, eA, b, eB)
		}
	}
}

// Trees beside one another, and plain calls, have nothing in common; one Tree that grows no more may be asked by many.
func TestManyAtOneTime(t *testing.T) {
	const many = 8
	l := logOf(60)
	shared := grown(l)
	var wait sync.WaitGroup
	var right [many]bool
	for w := range many {
		wait.Go(func() {
			x := tree.New()
			right[w] = true
			for i, e := range l[w:] {
				place := x.Add(e)
				path, _ := x.Inclusion(1+i/2, i+1)
				of, _ := shared.HeadAt(i + 1)
				right[w] = right[w] && place == i+1 && x.Head() == tree.Head(l[w:w+i+1]) && of == tree.Head(l[:i+1]) &&
					tree.Included(x.Head(), i+1, 1+i/2, l[w+i/2], path) == api.OK
			}
		})
	}
	wait.Wait()
	for w := range right {
		if !right[w] {
			t.Fatal("another answer:", w)
		}
	}
}
