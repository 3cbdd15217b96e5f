package tally_test

import (
	"math"
	"math/rand/v2"
	"testing"

	"amnesia/api"
	"amnesia/tally"
)

// P8.3: pruning.

func TestPruneExamples(t *testing.T) {
	k := acks()
	last := api.Ack{Node: 2, Draw: d1, Place: 5}
	l := []api.Ack{{Node: 0, Draw: d1, Place: 3}, last}
	k.expect(t, "example 2", tally.PruneAcks(l, api.Vector{d2, {}, d1}), last)
	k.expect(t, "no entry 2", tally.PruneAcks(l, api.Vector{d2}), last)
}

func TestPruneAlike(t *testing.T) {
	t.Run("acks", func(t *testing.T) { testPruneAlike(t, acks()) })
	t.Run("marks", func(t *testing.T) { testPruneAlike(t, marks()) })
	t.Run("ballots", func(t *testing.T) { testPruneAlike(t, ballots()) })
	t.Run("answers", func(t *testing.T) { testPruneAlike(t, answers()) })
}

func testPruneAlike[A any](t *testing.T, k kind[A]) {
	testPruneByDraw(t, k)
	testPruneWithoutEntry(t, k)
	testPruneKeepsOrder(t, k)
}

// Below, at and above the entry, by both halves.
func testPruneByDraw[A any](t *testing.T, k kind[A]) {
	rising := []api.Draw{{}, {Lo: 1}, {Lo: math.MaxUint64}, {Hi: 1}, {Hi: 1, Lo: 2}, {Hi: math.MaxUint64, Lo: 1}, {Hi: math.MaxUint64, Lo: math.MaxUint64}}
	for i, entry := range rising {
		for j, d := range rising {
			v := k.vote(1, d, [3]int{9, 2, 1})
			var want []A
			if j >= i {
				want = []A{v}
			}
			k.expect(t, "by draw", k.prune([]A{v}, api.Vector{{}, entry, {}}), want...)
		}
	}
}

func testPruneWithoutEntry[A any](t *testing.T, k kind[A]) {
	top := api.Draw{Hi: math.MaxUint64, Lo: math.MaxUint64}
	all := api.Vector{top, top, top}
	for _, node := range []int{math.MinInt, -3, -1, 3, 4, 7, math.MaxInt} {
		v := k.vote(node, api.Draw{}, [3]int{})
		k.expect(t, "no entry", k.prune([]A{v}, all), v)
	}
	l := k.at(0, 1, 2)
	k.expect(t, "no entries", k.prune(l, nil), l...)
	k.expect(t, "no entries", k.prune(l, api.Vector{}), l...)
	k.expect(t, "all entries", k.prune(l, all))
	k.expect(t, "the first", k.prune(l, all[:1]), l[1:]...)
	k.expect(t, "the first two", k.prune(l, all[:2]), l[2:]...)
	long := make(api.Vector, 100)
	long[99] = top
	k.expect(t, "a long vector", k.prune(k.at(98, 99, 100), long), k.at(98, 100)...)
	k.expect(t, "none", k.prune(nil, all))
	k.expect(t, "empty", k.prune([]A{}, all))
}

// Of any list: what is left keeps its order, and all that stand there.
func testPruneKeepsOrder[A any](t *testing.T, k kind[A]) {
	v := api.Vector{lo(5), lo(6), lo(5)}
	l := k.at(2, 1, 0, 2, 1, 9, 0, -1)
	k.expect(t, "in order", k.prune(l, v), k.at(2, 0, 2, 9, 0, -1)...)
	young := k.vote(1, lo(7), [3]int{})
	k.expect(t, "of one node", k.prune([]A{k.at(1)[0], young, k.at(1)[0]}, v), young)
}

func TestPruneByItsWords(t *testing.T) {
	t.Run("acks", func(t *testing.T) { testPruneByItsWords(t, acks()) })
	t.Run("marks", func(t *testing.T) { testPruneByItsWords(t, marks()) })
	t.Run("ballots", func(t *testing.T) { testPruneByItsWords(t, ballots()) })
	t.Run("answers", func(t *testing.T) { testPruneByItsWords(t, answers()) })
}

func someVector(r *rand.Rand, n int) api.Vector {
	v := make(api.Vector, n)
	for i := range v {
		v[i] = someDraw(r)
	}
	return v
}

func testPruneByItsWords[A any](t *testing.T, k kind[A]) {
	r := rand.New(rand.NewPCG(8, 3))
	for range 20000 {
		l, v := k.someList(r), someVector(r, r.IntN(6))
		k.expect(t, "at random", k.prune(l, v), k.wantPrune(l, v)...)
	}
}

// P8.7: what a check takes stays so.

func TestWhatStays(t *testing.T) {
	t.Run("acks", func(t *testing.T) { testWhatStays(t, acks()) })
	t.Run("marks", func(t *testing.T) { testWhatStays(t, marks()) })
	t.Run("ballots", func(t *testing.T) { testWhatStays(t, ballots()) })
	t.Run("answers", func(t *testing.T) { testWhatStays(t, answers()) })
}

func testWhatStays[A any](t *testing.T, k kind[A]) {
	r := rand.New(rand.NewPCG(8, 7))
	for range 5000 {
		c := pick(r, configs()...)
		n := 2*c.F + 1
		self := r.IntN(n)
		l := k.rising(r, c, self)
		k.expectCheck(t, "as it was", c, self, l, api.OK)
		v, ok := k.right(r, c, r.IntN(n))
		if !ok || *k.node(&v) == self {
			continue
		}
		k.expectCheck(t, "the vote by itself", c, self, []A{v}, api.OK)
		k.expectCheck(t, "behind Put", c, self, k.put(l, v), api.OK)
		k.expectCheck(t, "behind Prune", c, self, k.prune(l, someVector(r, n)), api.OK)
		k.expectCheck(t, "behind Prune", c, self, k.prune(k.put(l, v), someVector(r, r.IntN(n+2))), api.OK)
	}
}

func TestTwiceIsOnce(t *testing.T) {
	t.Run("acks", func(t *testing.T) { testTwiceIsOnce(t, acks()) })
	t.Run("marks", func(t *testing.T) { testTwiceIsOnce(t, marks()) })
	t.Run("ballots", func(t *testing.T) { testTwiceIsOnce(t, ballots()) })
	t.Run("answers", func(t *testing.T) { testTwiceIsOnce(t, answers()) })
}

func testTwiceIsOnce[A any](t *testing.T, k kind[A]) {
	r := rand.New(rand.NewPCG(8, 77))
	fell := 0
	for range 10000 {
		l, v := k.someList(r), k.some(r)
		a, b := someVector(r, 4), someVector(r, 4)
		once := k.put(l, v)
		k.expect(t, "Put twice", k.put(once, v), once...)
		k.expect(t, "by the zero vector", k.prune(l, make(api.Vector, 4)), l...)
		pruned := k.prune(l, a)
		k.expect(t, "Prune twice", k.prune(pruned, a), pruned...)
		k.expect(t, "one behind the other", k.prune(pruned, b), k.prune(l, greaterEntries(a, b))...)
		if len(k.prune([]A{v}, a)) == 0 {
			fell++
			k.expect(t, "it falls again", k.prune(k.put(k.prune(once, a), v), a), k.prune(k.prune(once, a), a)...)
		}
	}
	if fell < 1000 {
		t.Error("too few fell:", fell)
	}
}

func greaterEntries(a, b api.Vector) api.Vector {
	v := make(api.Vector, len(a))
	for i := range v {
		v[i] = a[i]
		if asNumber(b[i]).Cmp(asNumber(a[i])) > 0 {
			v[i] = b[i]
		}
	}
	return v
}
