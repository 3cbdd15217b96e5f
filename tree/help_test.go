package tree_test

import (
	"math"
	"math/rand/v2"
	"slices"
	"strconv"
	"strings"
	"testing"

	"amnesia/api"
	"amnesia/tree"
)

const (
	least    = math.MinInt
	greatest = math.MaxInt
)

// edges: numbers at which a number's form changes, and the ends.
var edges = []int{0, 1, 5, 127, 128, 255, 256, 65535, 65536, 1 << 32, 1<<56 - 1, 1 << 56, 1 << 62, greatest - 1, greatest, -1, -2, -128, -256, -1 << 32, least + 1, least}

// wrong: numbers that are no place and no size of any log here.
var wrong = []int{-1, -2, -1 << 31, least + 1, least, 1 << 31, 1 << 62, greatest - 1, greatest}

func seeded(seed uint64) *rand.Rand { return rand.New(rand.NewPCG(seed, 20)) }

// entry: the i-th of entries that are all unlike, with numbers and values of several kinds.
func entry(i int) api.Entry {
	return api.Entry{
		Client: i % 3,
		Number: i + 1,
		Op:     api.Op{Kind: i%6 - 1, Slot: 100*i - 300, Value: strings.Repeat(strconv.Itoa(i), i%40)},
	}
}

// logOf: the first n of these.
func logOf(n int) []api.Entry {
	var l []api.Entry
	for i := range n {
		l = append(l, entry(i))
	}
	return l
}

// stranger: an entry that logOf does not have.
var stranger = api.Entry{Client: 7, Number: -7, Op: api.Op{Kind: api.OpWrite, Slot: 7, Value: "stranger"}}

func someEntry(r *rand.Rand) api.Entry {
	value := make([]byte, r.IntN(3)*r.IntN(60))
	for i := range value {
		value[i] = byte(r.Uint32())
	}
	number := func() int {
		if r.IntN(2) == 0 {
			return edges[r.IntN(len(edges))]
		}
		return int(r.Uint64()) >> r.IntN(64)
	}
	return api.Entry{Client: number(), Number: number(), Op: api.Op{Kind: number(), Slot: number(), Value: string(value)}}
}

func someHash(r *rand.Rand) api.Hash {
	var h api.Hash
	for i := range h {
		h[i] = byte(r.Uint32())
	}
	return h
}

func somePath(r *rand.Rand, n int) []api.Hash {
	var path []api.Hash
	for range n {
		path = append(path, someHash(r))
	}
	return path
}

// flipped: with one bit turned.
func flipped(h api.Hash, bit int) api.Hash {
	h[bit/8%32] ^= 1 << (bit % 8)
	return h
}

// spoilt: paths that are not this one: a digest is changed, left out, put in, or two that are unlike are exchanged.
func spoilt(path []api.Hash) (changed, longer, shorter, exchanged [][]api.Hash) {
	for i := range path {
		other := slices.Clone(path)
		other[i] = flipped(other[i], 37*i+len(path))
		changed = append(changed, other)
		shorter = append(shorter, slices.Delete(slices.Clone(path), i, i+1))
		for j := range i {
			if path[i] != path[j] {
				other := slices.Clone(path)
				other[i], other[j] = other[j], other[i]
				exchanged = append(exchanged, other)
			}
		}
	}
	for i := range len(path) + 1 {
		extra := api.Hash{byte(i)}
		if i < len(path) {
			extra = path[i]
		}
		longer = append(longer, slices.Insert(slices.Clone(path), i, extra))
	}
	return changed, longer, shorter, exchanged
}

func expectHash(t *testing.T, what string, got, want api.Hash) {
	t.Helper()
	if got != want {
		t.Fatalf("%s: %x, want %x", what, got, want)
	}
}

// expectPath: a path with OK.
func expectPath(t *testing.T, what string, got []api.Hash, e api.Errno, want []api.Hash) {
	t.Helper()
	if e != api.OK || !slices.Equal(got, want) {
		t.Fatalf("%s: %x, %d, want %x", what, got, e, want)
	}
}

// expectNoPath: that error, and nothing beside it.
func expectNoPath(t *testing.T, what string, got []api.Hash, e, want api.Errno) {
	t.Helper()
	if e != want || len(got) != 0 {
		t.Fatalf("%s: %x, %d, want %d", what, got, e, want)
	}
}

// expectIncluded: that answer, which the model must have too.
func expectIncluded(t *testing.T, want api.Errno, head api.Hash, size, place int, e api.Entry, path []api.Hash) {
	t.Helper()
	if got := tree.Included(head, size, place, e, path); got != want {
		t.Fatalf("Included(%x, %d, %d, %v, %x): %d, want %d", head, size, place, e, path, got, want)
	}
	if m := modelIncluded(head, size, place, e, path); m != want {
		t.Fatalf("the model has %d of size %d, place %d, want %d", m, size, place, want)
	}
}

// expectExtends: that answer, which the model must have too.
func expectExtends(t *testing.T, want api.Errno, old api.Hash, m int, head api.Hash, n int, path []api.Hash) {
	t.Helper()
	if got := tree.Extends(old, m, head, n, path); got != want {
		t.Fatalf("Extends(%x, %d, %x, %d, %x): %d, want %d", old, m, head, n, path, got, want)
	}
	if got := modelExtends(old, m, head, n, path); got != want {
		t.Fatalf("the model has %d of %d and %d, want %d", got, m, n, want)
	}
}

// grown: a Tree with these entries.
func grown(l []api.Entry) *tree.Tree {
	x := tree.New()
	for _, e := range l {
		x.Add(e)
	}
	return x
}
