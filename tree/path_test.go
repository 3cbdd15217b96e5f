package tree_test

import (
	"fmt"
	"math/bits"
	"slices"
	"testing"

	"amnesia/api"
	"amnesia/tree"
)

// P20.2: Inclusion. P20.3: Consistency. P20.10: how long their paths are at most.

func TestInclusionOfEveryPlace(t *testing.T) {
	for n := range 41 {
		l := logOf(n)
		for place := 1; place <= n; place++ {
			path, e := tree.Inclusion(l, place)
			expectPath(t, fmt.Sprint(n, place), path, e, modelInclusion(listed(l), 0, n, place))
		}
	}
}

func TestInclusionOfPlacesThatThereAreNot(t *testing.T) {
	for n := range 41 {
		l := logOf(n)
		for _, place := range append([]int{0, n + 1, n + 2, 2 * (n + 1)}, wrong...) {
			path, e := tree.Inclusion(l, place)
			expectNoPath(t, fmt.Sprint(n, place), path, e, api.ErrPlace)
		}
	}
}

func TestConsistencyOfEverySize(t *testing.T) {
	for n := range 41 {
		l := logOf(n)
		for size := range n + 1 {
			path, e := tree.Consistency(l, size)
			expectPath(t, fmt.Sprint(n, size), path, e, modelConsistency(listed(l), size, n))
		}
	}
}

func TestConsistencyOfSizesThatThereAreNot(t *testing.T) {
	for n := range 41 {
		l := logOf(n)
		for _, size := range append([]int{n + 1, n + 2, 2 * (n + 1)}, wrong...) {
			path, e := tree.Consistency(l, size)
			expectNoPath(t, fmt.Sprint(n, size), path, e, api.ErrSize)
		}
	}
}

// Some paths digest by digest, by heads of parts of the log.
func TestPathsWrittenOut(t *testing.T) {
	l := logOf(7)
	part := func(from, to int) api.Hash { return tree.Head(l[from-1 : to]) }
	for place, want := range [][]api.Hash{
		{part(2, 2), part(3, 4), part(5, 7)},
		{part(1, 1), part(3, 4), part(5, 7)},
		{part(4, 4), part(1, 2), part(5, 7)},
		{part(3, 3), part(1, 2), part(5, 7)},
		{part(6, 6), part(7, 7), part(1, 4)},
		{part(5, 5), part(7, 7), part(1, 4)},
		{part(5, 6), part(1, 4)},
	} {
		path, e := tree.Inclusion(l, place+1)
		expectPath(t, fmt.Sprint("place ", place+1), path, e, want)
	}
	for size, want := range [][]api.Hash{
		nil,
		{part(2, 2), part(3, 4), part(5, 7)},
		{part(3, 4), part(5, 7)},
		{part(3, 3), part(4, 4), part(1, 2), part(5, 7)},
		{part(5, 7)},
		{part(5, 5), part(6, 6), part(7, 7), part(1, 4)},
		{part(5, 6), part(7, 7), part(1, 4)},
		nil,
	} {
		path, e := tree.Consistency(l, size)
		expectPath(t, fmt.Sprint("size ", size), path, e, want)
	}
}

func TestPathsOfNoEntries(t *testing.T) {
	for _, l := range [][]api.Entry{nil, {}} {
		path, e := tree.Inclusion(l, 0)
		expectNoPath(t, "Inclusion of 0", path, e, api.ErrPlace)
		path, e = tree.Inclusion(l, 1)
		expectNoPath(t, "Inclusion of 1", path, e, api.ErrPlace)
		path, e = tree.Consistency(l, 0)
		expectPath(t, "Consistency of 0", path, e, nil)
		path, e = tree.Consistency(l, 1)
		expectNoPath(t, "Consistency of 1", path, e, api.ErrSize)
	}
}

// Entries of any kind, alike ones among them.
func TestPathsOfAnyLogs(t *testing.T) {
	r := seeded(10)
	for range 150 {
		var l []api.Entry
		for range 1 + r.IntN(60) {
			if len(l) > 0 && r.IntN(3) == 0 {
				l = append(l, l[r.IntN(len(l))])
			} else {
				l = append(l, someEntry(r))
			}
		}
		place, size := 1+r.IntN(len(l)), r.IntN(len(l)+1)
		path, e := tree.Inclusion(l, place)
		expectPath(t, "Inclusion", path, e, modelInclusion(listed(l), 0, len(l), place))
		path, e = tree.Consistency(l, size)
		expectPath(t, "Consistency", path, e, modelConsistency(listed(l), size, len(l)))
	}
}

func expectShort(t *testing.T, x *tree.Tree, place, n int) {
	t.Helper()
	digits := bits.Len(uint(n))
	if path, e := x.Inclusion(place, n); e != api.OK || len(path) > digits {
		t.Fatal("Inclusion", place, n, len(path), e)
	}
	if path, e := x.Consistency(place, n); e != api.OK || len(path) > digits+1 {
		t.Fatal("Consistency", place, n, len(path), e)
	}
}

func TestPathsAreShort(t *testing.T) {
	x := grown(logOf(4200))
	for n := 1; n <= 100; n++ {
		for place := 1; place <= n; place++ {
			expectShort(t, x, place, n)
		}
	}
	for _, n := range []int{127, 128, 129, 255, 256, 257, 511, 512, 513, 1000, 1023, 1024, 1025, 2047, 2048, 2049, 3000, 4095, 4096, 4097, 4200} {
		for _, place := range []int{1, 2, 3, n / 3, n / 2, n/2 + 1, below(n) - 1, below(n), below(n) + 1, n - 1, n} {
			expectShort(t, x, place, n)
		}
	}
}

// The plain calls, too; and a path is not short for want of digests.
func TestPlainPathsOfGreaterLogs(t *testing.T) {
	l := logOf(2100)
	for _, n := range []int{1023, 1024, 1025, 2047, 2048, 2049, 2100} {
		h := listed(l)
		for _, place := range []int{1, below(n), below(n) + 1, n - 1, n} {
			path, e := tree.Inclusion(l[:n], place)
			expectPath(t, fmt.Sprint("Inclusion ", place, n), path, e, modelInclusion(h, 0, n, place))
			path, e = tree.Consistency(l[:n], place)
			expectPath(t, fmt.Sprint("Consistency ", place, n), path, e, modelConsistency(h, place, n))
		}
	}
	path, _ := tree.Inclusion(l[:2049], 2049)
	if want := []api.Hash{tree.Head(l[:2048])}; !slices.Equal(path, want) {
		t.Fatal(len(path))
	}
}
