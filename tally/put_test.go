package tally_test

import (
	"math"
	"math/rand/v2"
	"testing"

	"amnesia/api"
	"amnesia/tally"
)

// P8.2: putting.

var d1, d2 = api.Draw{Hi: 1}, api.Draw{Hi: 2}

func TestPutExamples(t *testing.T) {
	k := acks()
	last := api.Ack{Node: 2, Draw: d1, Place: 5}
	l := tally.PutAck([]api.Ack{{Node: 0, Draw: d1, Place: 3}}, last)
	k.expect(t, "both", l, api.Ack{Node: 0, Draw: d1, Place: 3}, last)
	k.expect(t, "less", tally.PutAck(l, api.Ack{Node: 0, Draw: d1, Place: 2}), l...)
	k.expect(t, "greater", tally.PutAck(l, api.Ack{Node: 0, Draw: d1, Place: 4}), api.Ack{Node: 0, Draw: d1, Place: 4}, last)
	k.expect(t, "a later life", tally.PutAck(l, api.Ack{Node: 0, Draw: d2}), api.Ack{Node: 0, Draw: d2}, last)
	k.expect(t, "an earlier life", tally.PutAck(l, api.Ack{Node: 0, Place: 9}), l...)
}

func TestPutAlike(t *testing.T) {
	t.Run("acks", func(t *testing.T) { testPutAlike(t, acks()) })
	t.Run("marks", func(t *testing.T) { testPutAlike(t, marks()) })
	t.Run("ballots", func(t *testing.T) { testPutAlike(t, ballots()) })
	t.Run("answers", func(t *testing.T) { testPutAlike(t, answers()) })
}

func testPutAlike[A any](t *testing.T, k kind[A]) {
	testPutOfANewNode(t, k)
	testPutByDraw(t, k)
	testPutOfTheSame(t, k)
	testPutIntoAnyList(t, k)
}

// at: votes of these nodes, each with the draw 5.
func (k kind[A]) at(nodes ...int) []A {
	var l []A
	for _, node := range nodes {
		l = append(l, k.vote(node, lo(5), [3]int{1, 1, 1}))
	}
	return l
}

func testPutOfANewNode[A any](t *testing.T, k kind[A]) {
	for _, c := range []struct {
		l    []int
		node int
		want []int
	}{
		{nil, 3, []int{3}},
		{[]int{1, 3, 5}, 0, []int{0, 1, 3, 5}},
		{[]int{1, 3, 5}, 2, []int{1, 2, 3, 5}},
		{[]int{1, 3, 5}, 4, []int{1, 3, 4, 5}},
		{[]int{1, 3, 5}, 6, []int{1, 3, 5, 6}},
		{[]int{1, 3, 5}, -1, []int{-1, 1, 3, 5}},
		{[]int{1, 3}, math.MinInt, []int{math.MinInt, 1, 3}},
		{[]int{1, 3}, math.MaxInt, []int{1, 3, math.MaxInt}},
		{[]int{math.MinInt, math.MaxInt}, 0, []int{math.MinInt, 0, math.MaxInt}},
		{[]int{5, 1, 3}, 2, []int{2, 5, 1, 3}}, // ahead of the first that is greater
		{[]int{5, 1, 3}, 6, []int{5, 1, 3, 6}},
		{[]int{1, 5, 3}, 4, []int{1, 4, 5, 3}},
		{[]int{1, 1, 1}, 0, []int{0, 1, 1, 1}},
		{[]int{1, 1, 1}, 2, []int{1, 1, 1, 2}},
		{[]int{3, 1, 3}, 2, []int{2, 3, 1, 3}},
	} {
		k.expect(t, "a new node", k.put(k.at(c.l...), k.at(c.node)[0]), k.at(c.want...)...)
	}
}

// The draw decides ahead of all else, by both its halves.
func testPutByDraw[A any](t *testing.T, k kind[A]) {
	rising := []api.Draw{{}, {Lo: 1}, {Lo: math.MaxUint64}, {Hi: 1}, {Hi: 1, Lo: 2}, {Hi: math.MaxUint64, Lo: 1}, {Hi: math.MaxUint64, Lo: math.MaxUint64}}
	for i, old := range rising {
		for j, d := range rising {
			for _, ranks := range [][2][3]int{{{1, 1, 1}, {1, 1, 1}}, {{2, 2, 2}, {1, 1, 1}}, {{1, 1, 1}, {2, 2, 2}}} {
				l := []A{k.vote(0, d1, [3]int{}), k.vote(3, old, ranks[0]), k.vote(4, d1, [3]int{})}
				v := k.vote(3, d, ranks[1])
				want := k.own(l)
				if j > i || j == i && k.wins(v, l[1]) {
					want[1] = v
				}
				k.expect(t, "by draw", k.put(l, v), want...)
			}
		}
	}
}

func testPutOfTheSame[A any](t *testing.T, k kind[A]) {
	for _, node := range []int{1, 3, 5} {
		l := k.at(1, 3, 5)
		k.expect(t, "the same", k.put(l, k.at(node)[0]), l...)
	}
}

// Of several of one node the first is the one that is looked at.
func testPutIntoAnyList[A any](t *testing.T, k kind[A]) {
	low, mid, high, other := k.vote(2, lo(1), [3]int{}), k.vote(2, lo(5), [3]int{}), k.vote(2, lo(9), [3]int{}), k.at(1)[0]
	for _, c := range []struct {
		what    string
		l, want []A
	}{
		{"above the first", []A{low, high}, []A{mid, high}},
		{"below the first", []A{high, low}, []A{high, low}},
		{"above all", []A{low, low}, []A{mid, low}},
		{"out of order", []A{k.at(7)[0], low, other}, []A{k.at(7)[0], mid, other}},
		{"out of order, below", []A{k.at(7)[0], high, other}, []A{k.at(7)[0], high, other}},
		{"first behind greater ones", []A{k.at(9)[0], k.at(8)[0], low}, []A{k.at(9)[0], k.at(8)[0], mid}},
		{"others twice", []A{other, low, other}, []A{other, mid, other}},
	} {
		k.expect(t, c.what, k.put(c.l, mid), c.want...)
	}
}

// Greater by each part, less and the same: of the same draw.
func TestPutOfAcks(t *testing.T) {
	k := acks()
	for _, c := range []struct {
		old, place int
		wins       bool
	}{
		{3, 4, true}, {3, 3, false}, {3, 2, false}, {0, 1, true}, {0, -1, false}, {-1, 0, true},
		{math.MinInt, math.MaxInt, true}, {math.MaxInt, math.MinInt, false}, {math.MinInt, math.MinInt + 1, true},
	} {
		expectWins(t, k, api.Ack{Node: 1, Draw: d1, Place: c.old}, api.Ack{Node: 1, Draw: d1, Place: c.place}, c.wins)
	}
}

func expectWins[A any](t *testing.T, k kind[A], old, v A, wins bool) {
	t.Helper()
	want := old
	if wins {
		want = v
	}
	k.expect(t, "of one life", k.put([]A{old}, v), want)
}

var rankPairs = []struct {
	old, rank [3]int
	wins      bool
}{
	{[3]int{5, 2, 1}, [3]int{6, 2, 1}, true}, {[3]int{5, 2, 1}, [3]int{4, 2, 1}, false},
	{[3]int{5, 2, 1}, [3]int{5, 3, 1}, true}, {[3]int{5, 2, 1}, [3]int{5, 1, 1}, false},
	{[3]int{5, 2, 1}, [3]int{5, 2, 2}, true}, {[3]int{5, 2, 1}, [3]int{5, 2, 0}, false},
	{[3]int{5, 2, 1}, [3]int{5, 2, 1}, false},
	{[3]int{5, 2, 2}, [3]int{6, 0, 0}, true}, {[3]int{5, 2, 2}, [3]int{4, 9, 9}, false},
	{[3]int{5, 2, 2}, [3]int{5, 3, 0}, true}, {[3]int{5, 2, 2}, [3]int{5, 1, 9}, false},
	{[3]int{math.MinInt, 0, 0}, [3]int{math.MaxInt, 0, 0}, true}, {[3]int{math.MaxInt, 0, 0}, [3]int{math.MinInt, 0, 0}, false},
	{[3]int{0, 0, math.MinInt}, [3]int{0, 0, math.MaxInt}, true}, {[3]int{0, 0, math.MaxInt}, [3]int{0, 0, math.MinInt}, false},
	{[3]int{-1, 0, -2}, [3]int{-1, 0, -1}, true}, {[3]int{-1, 3, 3}, [3]int{0, 0, 0}, true},
}

func TestPutOfBallots(t *testing.T) {
	k := ballots()
	for _, c := range rankPairs {
		expectWins(t, k, k.vote(1, d1, c.old), k.vote(1, d1, c.rank), c.wins)
	}
	// What stands in the log has no part, its length alone.
	other := api.Ballot{Node: 1, Draw: d1, Last: 5, Commit: 1, Log: make([]api.Entry, 2)}
	expectWins(t, k, k.vote(1, d1, [3]int{5, 2, 1}), other, false)
}

func TestPutOfAnswers(t *testing.T) {
	k := answers()
	for _, c := range rankPairs {
		expectWins(t, k, k.vote(1, d1, c.old), k.vote(1, d1, c.rank), c.wins)
	}
	other := api.Answer{Node: 1, Draw: d1, View: 5, Commit: 1, Log: make([]api.Entry, 2)}
	expectWins(t, k, k.vote(1, d1, [3]int{5, 2, 1}), other, false)
}

// A list whose nodes do not come in order is put into as it is; all against the words.
func TestPutByItsWords(t *testing.T) {
	t.Run("acks", func(t *testing.T) { testPutByItsWords(t, acks()) })
	t.Run("marks", func(t *testing.T) { testPutByItsWords(t, marks()) })
	t.Run("ballots", func(t *testing.T) { testPutByItsWords(t, ballots()) })
	t.Run("answers", func(t *testing.T) { testPutByItsWords(t, answers()) })
}

func testPutByItsWords[A any](t *testing.T, k kind[A]) {
	r := rand.New(rand.NewPCG(8, 2))
	for range 20000 {
		l, v := k.someList(r), k.some(r)
		k.expect(t, "at random", k.put(l, v), k.wantPut(l, v)...)
	}
}

// P8.8: in whatever order.

func TestPutInWhateverOrder(t *testing.T) {
	t.Run("acks", func(t *testing.T) { testPutInWhateverOrder(t, acks()) })
	t.Run("marks", func(t *testing.T) { testPutInWhateverOrder(t, marks()) })
	t.Run("ballots", func(t *testing.T) { testPutInWhateverOrder(t, ballots()) })
	t.Run("answers", func(t *testing.T) { testPutInWhateverOrder(t, answers()) })
}

func testPutInWhateverOrder[A any](t *testing.T, k kind[A]) {
	r := rand.New(rand.NewPCG(8, 8))
	unlike, ofOne := 0, 0
	for range 20000 {
		l, a, b := k.rising(r, five, -1), k.some(r), k.some(r)
		switch {
		case *k.node(&a) != *k.node(&b):
			unlike++
		case k.wins(a, b) || k.wins(b, a):
			ofOne++
		default:
			continue
		}
		k.expect(t, "in either order", k.put(k.put(l, a), b), k.put(k.put(l, b), a)...)
	}
	if unlike < 1000 || ofOne < 1000 {
		t.Error("too few of some:", unlike, ofOne)
	}
}
