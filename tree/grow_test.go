package tree_test

import (
	"fmt"
	"slices"
	"testing"

	"amnesia/api"
	"amnesia/tree"
)

// P20.6: a Tree. P20.10: it answers what the plain calls answer.

// expectSame: a Tree answers, of every place and size, what the plain calls answer of the log.
func expectSame(t *testing.T, x *tree.Tree, l []api.Entry) {
	t.Helper()
	expectLike(t, x, l)
	for n := range len(l) + 1 {
		h, e := x.HeadAt(n)
		if e != api.OK || h != tree.Head(l[:n]) {
			t.Fatal("HeadAt", n, h, e)
		}
		for at := -1; at <= n+2; at++ {
			got, e := x.Inclusion(at, n)
			want, wantE := tree.Inclusion(l[:n], at)
			expectAlike(t, fmt.Sprint("Inclusion ", at, n), got, e, want, wantE)
			got, e = x.Consistency(at, n)
			want, wantE = tree.Consistency(l[:n], at)
			expectAlike(t, fmt.Sprint("Consistency ", at, n), got, e, want, wantE)
		}
	}
}

func expectAlike(t *testing.T, what string, got []api.Hash, e api.Errno, want []api.Hash, wantE api.Errno) {
	t.Helper()
	if e != wantE || !slices.Equal(got, want) {
		t.Fatalf("%s: %x, %d, want %x, %d", what, got, e, want, wantE)
	}
}

// expectLike: the Size and the Head of the log.
func expectLike(t *testing.T, x *tree.Tree, l []api.Entry) {
	t.Helper()
	if x.Size() != len(l) {
		t.Fatal("Size", x.Size(), len(l))
	}
	expectHash(t, fmt.Sprint("Head of ", len(l)), x.Head(), tree.Head(l))
}

// expectNoSizes: sizes that a Tree does not have come first, whatever the place.
func expectNoSizes(t *testing.T, x *tree.Tree) {
	t.Helper()
	n := x.Size()
	for _, size := range append([]int{n + 1, n + 2}, wrong...) {
		if h, e := x.HeadAt(size); e != api.ErrSize || h != (api.Hash{}) {
			t.Fatal("HeadAt", size, h, e)
		}
		for _, at := range append([]int{0, 1, n, n + 1}, wrong...) {
			path, e := x.Inclusion(at, size)
			expectNoPath(t, fmt.Sprint("Inclusion ", at, size), path, e, api.ErrSize)
			path, e = x.Consistency(at, size)
			expectNoPath(t, fmt.Sprint("Consistency ", at, size), path, e, api.ErrSize)
		}
	}
	for _, at := range wrong {
		for size := range n + 1 {
			path, e := x.Inclusion(at, size)
			expectNoPath(t, fmt.Sprint("Inclusion ", at, size), path, e, api.ErrPlace)
			path, e = x.Consistency(at, size)
			expectNoPath(t, fmt.Sprint("Consistency ", at, size), path, e, api.ErrSize)
		}
	}
}

func TestTreeBehindEachAdd(t *testing.T) {
	x, l := tree.New(), logOf(40)
	expectSame(t, x, nil)
	expectNoSizes(t, x)
	for i, e := range l {
		if place := x.Add(e); place != i+1 {
			t.Fatal("Add", i, place)
		}
		expectSame(t, x, l[:i+1])
		expectNoSizes(t, x)
	}
}

// The growing edge at every size: its Head is that of a Tree that has grown further.
func TestTreeGrowsLong(t *testing.T) {
	l := logOf(2100)
	x := tree.New()
	later := grown(l)
	for i, e := range l {
		if place := x.Add(e); place != i+1 || x.Size() != i+1 {
			t.Fatal("Add", i, place, x.Size())
		}
		if i < 300 || i%97 == 0 || i > 2040 && i < 2055 {
			expectHash(t, fmt.Sprint("Head of ", i+1), x.Head(), tree.Head(l[:i+1]))
			h, errno := later.HeadAt(i + 1)
			if errno != api.OK || h != x.Head() {
				t.Fatal("HeadAt", i+1, h, errno)
			}
		}
	}
	expectHash(t, "at the end", x.Head(), modelHead(l))
}

// Entries of any kind, alike ones one behind the other among them.
func TestTreeOfAnyEntries(t *testing.T) {
	for seed := range uint64(20) {
		r := seeded(4000 + seed)
		x := tree.New()
		var l []api.Entry
		for range 1 + r.IntN(20) {
			e := someEntry(r)
			for range 1 + r.IntN(3) {
				l = append(l, e)
				if place := x.Add(e); place != len(l) {
					t.Fatal("Add", place, len(l))
				}
			}
		}
		expectSame(t, x, l)
	}
}

// Asking changes nothing: a Tree that is asked all the time goes on as one that is not.
func TestAskingChangesNothing(t *testing.T) {
	asked, quiet := tree.New(), tree.New()
	for i, e := range logOf(40) {
		asked.Add(e)
		quiet.Add(e)
		for n := range i + 3 {
			asked.HeadAt(n)
			asked.Inclusion(n, i)
			asked.Consistency(n, i+1)
			asked.Head()
			asked.Size()
		}
		expectHash(t, fmt.Sprint("Head of ", i+1), asked.Head(), quiet.Head())
	}
	expectSame(t, asked, logOf(40))
}

// answers: all that a Tree answers of its first n entries.
func answers(x *tree.Tree, n int) []api.Hash {
	h, _ := x.HeadAt(n)
	all := []api.Hash{h}
	for at := range n + 1 {
		path, _ := x.Inclusion(at, n)
		all = append(all, path...)
		path, _ = x.Consistency(at, n)
		all = append(all, path...)
	}
	return all
}

// What was answered stays as it was, and is answered again, whatever is added.
func TestWhatWasAnsweredStays(t *testing.T) {
	x, l := tree.New(), logOf(24)
	type kept struct{ path, then []api.Hash }
	var paths []kept
	var heads []api.Hash
	keep := func(path []api.Hash, _ api.Errno) { paths = append(paths, kept{path, slices.Clone(path)}) }
	var all [][]api.Hash
	for i, e := range l {
		x.Add(e)
		heads = append(heads, x.Head())
		all = append(all, answers(x, i+1))
		for at := range i + 2 {
			keep(x.Inclusion(at, i+1))
			keep(x.Consistency(at, i+1))
		}
	}
	for _, k := range paths {
		if !slices.Equal(k.path, k.then) {
			t.Fatal("a path has changed")
		}
	}
	for i := range l {
		if h, e := x.HeadAt(i + 1); e != api.OK || h != heads[i] {
			t.Fatal("HeadAt", i+1, e)
		}
		if !slices.Equal(answers(x, i+1), all[i]) {
			t.Fatal("another answer of", i+1)
		}
	}
}

func TestTwoTreesFedInTurn(t *testing.T) {
	r := seeded(40)
	a, b := tree.New(), tree.New()
	if a == b || a == nil {
		t.Fatal("New has made one twice, or none")
	}
	var fedA, fedB []api.Entry
	for range 60 {
		x, fed := a, &fedA
		if r.IntN(2) == 0 {
			x, fed = b, &fedB
		}
		e := someEntry(r)
		*fed = append(*fed, e)
		if place := x.Add(e); place != len(*fed) {
			t.Fatal("Add", place, len(*fed))
		}
		expectLike(t, a, fedA)
		expectLike(t, b, fedB)
	}
	expectSame(t, a, fedA)
	expectSame(t, b, fedB)
}

// P20.7: a nil Tree, and a zero one.

func TestNilTree(t *testing.T) {
	var x *tree.Tree
	for range 3 {
		if place := x.Add(stranger); place != 0 {
			t.Fatal("Add", place)
		}
		expectSame(t, x, nil)
		expectNoSizes(t, x)
	}
	if h, e := x.HeadAt(0); e != api.OK || h != tree.Head(nil) {
		t.Fatal("HeadAt", h, e)
	}
	for _, place := range append([]int{0, 1}, wrong...) {
		path, e := x.Inclusion(place, 0)
		expectNoPath(t, fmt.Sprint("Inclusion ", place), path, e, api.ErrPlace)
		path, e = x.Inclusion(place, 1)
		expectNoPath(t, fmt.Sprint("Inclusion ", place), path, e, api.ErrSize)
	}
	path, e := x.Consistency(0, 0)
	expectPath(t, "Consistency", path, e, nil)
	path, e = x.Consistency(1, 0)
	expectNoPath(t, "Consistency", path, e, api.ErrSize)
	path, e = x.Consistency(0, 1)
	expectNoPath(t, "Consistency", path, e, api.ErrSize)
}

// callAll makes every call of a Tree, with numbers of all kinds.
func callAll(x *tree.Tree) {
	numbers := append([]int{0, 1, 2, 3}, wrong...)
	x.Size()
	x.Head()
	for _, a := range numbers {
		x.HeadAt(a)
		for _, b := range numbers {
			x.Inclusion(a, b)
			x.Consistency(a, b)
		}
	}
}

// What it answers is free; that no call panics is asked.
func TestZeroTree(t *testing.T) {
	for _, x := range []*tree.Tree{{}, new(tree.Tree)} {
		callAll(x)
		for _, e := range logOf(9) {
			x.Add(e)
			callAll(x)
		}
	}
	var zero tree.Tree
	callAll(&zero)
	zero.Add(stranger)
	callAll(&zero)
}
