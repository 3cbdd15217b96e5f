package tally_test

import (
	"math"
	"math/rand/v2"
	"slices"
	"testing"

	"amnesia/api"
	"amnesia/tally"
)

// P8.4: Reached, Marked.

func placesOf(places ...int) []api.Ack {
	var l []api.Ack
	for i, p := range places {
		l = append(l, api.Ack{Node: i + 1, Draw: d1, Place: p})
	}
	return l
}

func TestReached(t *testing.T) {
	for _, c := range []struct {
		f, own int
		places []int
		want   int
	}{
		{1, 4, []int{3, 1}, 3}, {2, 4, []int{3, 1}, 1}, {1, 2, []int{3, 1}, 2}, {3, 4, []int{3, 1}, 0}, {0, 4, nil, 4}, // example 3
		{0, 4, []int{3, 1}, 4}, {-1, 4, []int{9}, 4}, {math.MinInt, math.MaxInt, nil, math.MaxInt}, // f below 1
		{0, -1, []int{3}, 0}, {-5, math.MinInt, nil, 0}, {0, 0, []int{3}, 0},
		{1, -1, []int{3, 1}, 0}, {1, math.MinInt, []int{3}, 0}, {1, 0, []int{3}, 0}, // own below 0
		{1, 4, nil, 0}, {3, 4, []int{4, 4}, 0}, {math.MaxInt, 4, []int{4, 4}, 0}, // f above the length
		{1, 4, []int{-1}, 0}, {2, 4, []int{-1, 3}, 0}, {1, 4, []int{-1, 3}, 3}, {2, 4, []int{math.MinInt, math.MaxInt}, 0}, // places below 0
		{1, math.MaxInt, []int{math.MaxInt}, math.MaxInt}, {1, 4, []int{math.MaxInt}, 4}, {1, math.MaxInt, []int{7}, 7},
		{1, 1, []int{1}, 1}, {1, 1, []int{0}, 0}, {1, 5, []int{5}, 5}, {1, 5, []int{6}, 5}, {1, 5, []int{4}, 4},
		{2, 9, []int{4, 4, 4}, 4}, {3, 9, []int{4, 4, 4}, 4}, {4, 9, []int{4, 4, 4}, 0},
		{2, 9, []int{1, 8, 3, 5}, 5}, {3, 9, []int{1, 8, 3, 5}, 3}, {4, 9, []int{1, 8, 3, 5}, 1}, {2, 4, []int{1, 8, 3, 5}, 4},
	} {
		if got := tally.Reached(c.f, c.own, placesOf(c.places...)); got != c.want {
			t.Errorf("Reached(%d, %d, %v): %d, want %d", c.f, c.own, c.places, got, c.want)
		}
	}
}

// Nodes and draws have no part: each ack of the list counts.
func TestReachedOfOneNode(t *testing.T) {
	l := []api.Ack{{Node: 1, Draw: d1, Place: 3}, {Node: 1, Draw: d2, Place: 4}, {Node: -7, Place: 5}}
	for f, want := range []int{9, 5, 4, 3, 0} {
		if got := tally.Reached(f, 9, l); got != want {
			t.Errorf("Reached(%d): %d, want %d", f, got, want)
		}
	}
}

// By the words: the places are tried from above.
func wantReached(f, own int, places []int) int {
	for p := own; p > 0; p-- {
		reached := 0
		for _, q := range places {
			if q >= p {
				reached++
			}
		}
		if reached >= f {
			return p
		}
	}
	return 0
}

func somePlaces(r *rand.Rand) []int {
	places := make([]int, r.IntN(7))
	for i := range places {
		places[i] = r.IntN(12) - 2
	}
	return places
}

func TestReachedByItsWords(t *testing.T) {
	r := rand.New(rand.NewPCG(8, 4))
	for range 20000 {
		f, own, places := r.IntN(9)-1, r.IntN(13)-2, somePlaces(r)
		if got, want := tally.Reached(f, own, placesOf(places...)), wantReached(f, own, places); got != want {
			t.Fatalf("Reached(%d, %d, %v): %d, want %d", f, own, places, got, want)
		}
	}
}

func TestMarked(t *testing.T) {
	for n := range 5 {
		l := make([]api.Mark, n)
		for _, f := range []int{math.MinInt, -1, 0, 1, 2, 3, 4, 5, math.MaxInt} {
			if got := tally.Marked(f, l); got != (n >= f) {
				t.Errorf("Marked(%d) of %d marks: %v", f, n, got)
			}
		}
	}
	if !tally.Marked(0, nil) || tally.Marked(1, nil) || tally.Marked(1, []api.Mark{}) {
		t.Error("of none")
	}
}

// P8.5: Choose.

func bal(node, last, length, commit int) api.Ballot {
	return ballots().vote(node, lo(uint64(node+100)), [3]int{last, length, commit})
}

func expectChoose(t *testing.T, what string, f int, own api.Ballot, l []api.Ballot, want api.Ballot) {
	t.Helper()
	b, e := tally.Choose(f, own, l)
	if e != api.OK || !ballots().same([]api.Ballot{b}, []api.Ballot{want}) {
		t.Fatalf("%s: Choose(%d, %+v, %+v): %+v, %d, want %+v", what, f, own, l, b, e, want)
	}
}

// Beside ErrNone is nothing.
func expectNoChoice(t *testing.T, f int, own api.Ballot, l []api.Ballot) {
	t.Helper()
	b, e := tally.Choose(f, own, l)
	if e != api.ErrNone || !ballots().same([]api.Ballot{b}, []api.Ballot{{}}) {
		t.Fatalf("Choose(%d, %+v, %+v): %+v, %d, want ErrNone", f, own, l, b, e)
	}
}

func TestChooseOfTooFew(t *testing.T) {
	own := bal(0, 2, 1, 1)
	l := []api.Ballot{bal(1, 1, 3, 0), bal(2, 1, 2, 0)}
	expectNoChoice(t, 1, own, nil)
	expectNoChoice(t, 1, own, []api.Ballot{})
	expectNoChoice(t, 2, own, l[:1])
	expectNoChoice(t, 3, own, l)
	expectNoChoice(t, math.MaxInt, own, l)
	for _, f := range []int{2, 1, 0, -1, math.MinInt} {
		expectChoose(t, "enough", f, own, l, own)
	}
	expectChoose(t, "own alone", 0, own, nil, own)
	expectChoose(t, "own alone", -1, own, nil, own)
}

func TestChoose(t *testing.T) {
	twin := bal(1, 5, 2, 0)
	twin.Draw = lo(999)
	for _, c := range []struct {
		what string
		own  api.Ballot
		l    []api.Ballot
		want api.Ballot
	}{
		{"example 4", bal(0, 2, 1, 0), []api.Ballot{bal(1, 1, 3, 0)}, bal(0, 2, 1, 0)},
		{"example 4, own Last 1", bal(0, 1, 1, 0), []api.Ballot{bal(1, 1, 3, 0)}, bal(1, 1, 3, 0)},
		{"the greatest Last", bal(0, 5, 3, 0), []api.Ballot{bal(1, 6, 0, 0), bal(2, 4, 9, 0)}, bal(1, 6, 0, 0)},
		{"the greatest Last stands last", bal(0, 5, 3, 0), []api.Ballot{bal(1, 6, 2, 0), bal(2, 7, 1, 0)}, bal(2, 7, 1, 0)},
		{"the longest", bal(0, 5, 3, 0), []api.Ballot{bal(1, 5, 4, 0), bal(2, 5, 2, 0)}, bal(1, 5, 4, 0)},
		{"the longest stands last", bal(0, 5, 3, 0), []api.Ballot{bal(1, 5, 2, 0), bal(2, 5, 4, 0)}, bal(2, 5, 4, 0)},
		{"the least node, own", bal(0, 5, 3, 0), []api.Ballot{bal(1, 5, 3, 0), bal(2, 5, 3, 0)}, bal(0, 5, 3, 0)},
		{"the least node, another", bal(2, 5, 3, 0), []api.Ballot{bal(0, 5, 3, 0), bal(1, 5, 3, 0)}, bal(0, 5, 3, 0)},
		{"the least node, out of order", bal(2, 5, 3, 0), []api.Ballot{bal(1, 5, 3, 0), bal(0, 5, 3, 0)}, bal(0, 5, 3, 0)},
		{"the least node, below 0", bal(2, 5, 3, 0), []api.Ballot{bal(math.MinInt, 5, 3, 0), bal(-1, 5, 3, 0)}, bal(math.MinInt, 5, 3, 0)},
		{"of one node: own", bal(1, 5, 2, 0), []api.Ballot{twin}, bal(1, 5, 2, 0)},
		{"of one node: own, its draw less", twin, []api.Ballot{bal(1, 5, 2, 0)}, twin},
		{"of one node: the first", bal(3, 5, 2, 0), []api.Ballot{bal(2, 5, 2, 0), twin, bal(1, 5, 2, 0)}, twin},
		{"of one node: the other first", bal(3, 5, 2, 0), []api.Ballot{bal(2, 5, 2, 0), bal(1, 5, 2, 0), twin}, bal(1, 5, 2, 0)},
		{"of one node, a greater Last", bal(1, 4, 2, 0), []api.Ballot{twin}, twin},
		{"Last below 0", bal(0, -2, 2, 0), []api.Ballot{bal(1, -1, 0, 0)}, bal(1, -1, 0, 0)},
		{"Last at the ends", bal(0, math.MinInt, 2, 0), []api.Ballot{bal(1, math.MaxInt, 1, 0)}, bal(1, math.MaxInt, 1, 0)},
		{"nothing at all", api.Ballot{}, []api.Ballot{{}}, api.Ballot{}},
	} {
		expectChoose(t, c.what, 1, c.own, c.l, c.want)
	}
}

func TestChooseCommit(t *testing.T) {
	for _, c := range []struct {
		own    int
		others []int
		length int // of the chosen one, which is the first of the others
		want   int
	}{
		{0, []int{0, 0}, 3, 0}, {1, []int{0, 0}, 3, 1}, {0, []int{1, 0}, 3, 1}, {0, []int{0, 1}, 3, 1}, {1, []int{3, 2}, 3, 3},
		{3, []int{0, 0}, 3, 3}, {0, []int{1, 3}, 3, 3}, // at its Log's length
		{4, []int{0, 0}, 3, 3}, {0, []int{1, 4}, 3, 3}, {0, []int{4, 0}, 3, 3}, {math.MaxInt, []int{0, 0}, 3, 3}, // above it
		{1, []int{0, 9}, 0, 0}, {0, []int{0, 0}, 0, 0},
		{-1, []int{-1, -1}, 3, 0}, {-2, []int{-1, math.MinInt}, 3, 0}, {-1, []int{-1, 2}, 3, 2}, {-1, []int{-3, -9}, 0, 0}, {math.MinInt, []int{math.MinInt, math.MinInt}, 3, 0}, // below 0
	} {
		own := bal(0, 1, 2, c.own)
		l := []api.Ballot{bal(1, 9, c.length, c.others[0]), bal(2, 1, 2, c.others[1])}
		expectChoose(t, "commit", 2, own, l, bal(1, 9, c.length, c.want))
	}
	// Own is chosen: the Commit comes from the others all the same.
	expectChoose(t, "own", 1, bal(0, 5, 3, 1), []api.Ballot{bal(1, 4, 9, 2)}, bal(0, 5, 3, 2))
	expectChoose(t, "own", 1, bal(0, 5, 3, 1), []api.Ballot{bal(1, 4, 9, 8)}, bal(0, 5, 3, 3))
	expectChoose(t, "own alone", 0, bal(0, 5, 3, -1), nil, bal(0, 5, 3, 0))
	expectChoose(t, "own alone", 0, bal(0, 5, 3, 7), nil, bal(0, 5, 3, 3))
}

// By the words: what is less falls away, question by question.
func wantChoose(own api.Ballot, l []api.Ballot) api.Ballot {
	ones := append([]api.Ballot{own}, l...)
	commit := slices.MaxFunc(ones, func(a, b api.Ballot) int { return a.Commit - b.Commit }).Commit
	for _, worth := range []func(api.Ballot) int{
		func(b api.Ballot) int { return b.Last },
		func(b api.Ballot) int { return len(b.Log) },
		func(b api.Ballot) int { return -b.Node },
	} {
		most := worth(slices.MaxFunc(ones, func(a, b api.Ballot) int { return worth(a) - worth(b) }))
		ones = slices.DeleteFunc(ones, func(b api.Ballot) bool { return worth(b) < most })
	}
	want := ones[0]
	want.Commit = min(commit, len(want.Log))
	if want.Commit < 0 {
		want.Commit = 0
	}
	return want
}

func someBallots(r *rand.Rand) (api.Ballot, []api.Ballot) {
	own, l := ballots().some(r), ballots().someList(r)
	for range r.IntN(3) {
		own.Commit -= 2
		for i := range l {
			l[i].Commit -= 2
		}
	}
	return own, l
}

func TestChooseByItsWords(t *testing.T) {
	r := rand.New(rand.NewPCG(8, 5))
	for range 20000 {
		f := r.IntN(6) - 1
		own, l := someBallots(r)
		if len(l) < f {
			expectNoChoice(t, f, own, l)
			continue
		}
		expectChoose(t, "at random", f, own, l, wantChoose(own, l))
	}
}

// P8.6: Settle.

func ans(node, view, length int) api.Answer {
	return answers().vote(node, lo(uint64(node+100)), [3]int{view, length, length})
}

func expectSettle(t *testing.T, what string, f int, l []api.Answer, want api.Answer) {
	t.Helper()
	a, e := tally.Settle(f, l)
	if e != api.OK || !answers().same([]api.Answer{a}, []api.Answer{want}) {
		t.Fatalf("%s: Settle(%d, %+v): %+v, %d, want %+v", what, f, l, a, e, want)
	}
}

func expectUnsettled(t *testing.T, what string, f int, l []api.Answer) {
	t.Helper()
	a, e := tally.Settle(f, l)
	if e != api.ErrNone || !answers().same([]api.Answer{a}, []api.Answer{{}}) {
		t.Fatalf("%s: Settle(%d, %+v): %+v, %d, want ErrNone", what, f, l, a, e)
	}
}

func TestSettleExamples(t *testing.T) {
	expectSettle(t, "example 5", 1, []api.Answer{{Node: 0, View: 3}, {Node: 1, View: 2}}, api.Answer{Node: 0, View: 3})
	expectUnsettled(t, "example 5: node 0 is missing", 1, []api.Answer{{Node: 1, View: 3}, {Node: 2, View: 2}})
	expectUnsettled(t, "example 5: too few", 1, []api.Answer{{Node: 0}})
}

// No group has such an f, whatever the answers.
func TestSettleOfAnyF(t *testing.T) {
	var l []api.Answer
	for node := range 20 {
		l = append(l, ans(node, 0, 2))
	}
	for _, f := range edges {
		if f >= 1 && f <= api.MaxF {
			expectSettle(t, "an f that may be", f, l, ans(0, 0, 2))
		} else {
			expectUnsettled(t, "an f that may not be", f, l)
		}
	}
	expectUnsettled(t, "0", 0, l[:1])
	expectUnsettled(t, "-1", -1, nil)
	expectUnsettled(t, "MaxF + 1", api.MaxF+1, l[:5])
}

func TestSettleOfTooFew(t *testing.T) {
	for f := 1; f <= api.MaxF; f++ {
		var l []api.Answer
		for node := range 2*f + 1 {
			l = append(l, ans(node, 0, 0))
		}
		for n := range l {
			if n <= f {
				expectUnsettled(t, "too few", f, l[:n])
			} else {
				expectSettle(t, "enough", f, l[:n], l[0])
			}
		}
	}
	expectUnsettled(t, "none", 1, nil)
	expectUnsettled(t, "empty", 1, []api.Answer{})
}

func TestSettle(t *testing.T) {
	twin := ans(1, 4, 1)
	twin.Draw = lo(999)
	for _, c := range []struct {
		what string
		f    int
		l    []api.Answer
		want api.Answer
	}{
		{"the primary stands first", 1, []api.Answer{ans(1, 4, 2), ans(2, 3, 0)}, ans(1, 4, 2)},
		{"the primary stands last", 1, []api.Answer{ans(0, 3, 1), ans(1, 4, 2)}, ans(1, 4, 2)},
		{"a primary of an earlier view beside", 1, []api.Answer{ans(0, 3, 9), ans(1, 4, 0), ans(2, 4, 0)}, ans(1, 4, 0)},
		{"its log may be empty", 1, []api.Answer{ans(1, 4, 0), ans(2, 4, 0)}, ans(1, 4, 0)},
		{"several: the first", 1, []api.Answer{ans(0, 4, 0), ans(1, 4, 1), twin}, ans(1, 4, 1)},
		{"several: the other first", 1, []api.Answer{ans(0, 4, 0), twin, ans(1, 4, 1)}, twin},
		{"several: its log has no part", 1, []api.Answer{ans(1, 4, 1), ans(1, 4, 7)}, ans(1, 4, 1)},
		{"an earlier one of it ahead", 1, []api.Answer{ans(1, 1, 9), ans(1, 4, 1)}, ans(1, 4, 1)},
		{"of five", 2, []api.Answer{ans(0, 9, 0), ans(1, 9, 0), ans(4, 9, 3)}, ans(4, 9, 3)},
		{"of seven", 3, []api.Answer{ans(0, 9, 0), ans(1, 9, 0), ans(2, 9, 3), ans(3, 8, 0)}, ans(2, 9, 3)},
		{"the greatest view", 2, []api.Answer{ans(0, 0, 0), ans(1, 0, 0), ans(2, math.MaxInt, 1)}, ans(2, math.MaxInt, 1)},
		{"view -1 of three: 2", 1, []api.Answer{ans(0, -4, 0), ans(2, -1, 1)}, ans(2, -1, 1)},
		{"view -3 of three: 0", 1, []api.Answer{ans(0, -3, 1), ans(2, -4, 1)}, ans(0, -3, 1)},
		{"the least view: 2^63 is 2 modulo 3", 1, []api.Answer{ans(0, math.MinInt, 0), ans(1, math.MinInt, 1)}, ans(1, math.MinInt, 1)},
	} {
		expectSettle(t, c.what, c.f, c.l, c.want)
	}
	for _, c := range []struct {
		what string
		f    int
		l    []api.Answer
	}{
		{"the primary has not answered", 1, []api.Answer{ans(0, 4, 0), ans(2, 4, 0)}},
		{"it has, of an earlier view", 1, []api.Answer{ans(0, 4, 0), ans(1, 3, 0), ans(2, 4, 0)}},
		{"it has, of an earlier view that is its own", 1, []api.Answer{ans(0, 4, 0), ans(1, 1, 5), ans(2, 4, 0)}},
		{"the primary of an earlier view alone", 1, []api.Answer{ans(0, 3, 9), ans(2, 4, 0)}},
		{"it would be so of five", 1, []api.Answer{ans(4, 9, 3), ans(1, 9, 0)}},
		{"a node that is the view, not modulo", 1, []api.Answer{ans(4, 4, 3), ans(0, 4, 0)}},
		{"a node beyond, the same modulo", 1, []api.Answer{ans(7, 4, 3), ans(-2, 4, 0)}},
		{"a node below 0", 1, []api.Answer{ans(-1, -1, 3), ans(0, -1, 0)}},
		{"the last one's view is greater", 2, []api.Answer{ans(0, 5, 1), ans(1, 5, 0), ans(2, 6, 0)}},
	} {
		expectUnsettled(t, c.what, c.f, c.l)
	}
}

// By the words, each answer by itself: is it of the primary, and is none greater?
func wantSettle(f int, l []api.Answer) (api.Answer, bool) {
	if f < 1 || f > 3 || len(l) <= f {
		return api.Answer{}, false
	}
	for _, a := range l {
		n := 2*f + 1
		primary := a.Node >= 0 && a.Node < n && (a.View-a.Node)%n == 0
		if primary && !slices.ContainsFunc(l, func(b api.Answer) bool { return b.View > a.View }) {
			return a, true
		}
	}
	return api.Answer{}, false
}

func TestSettleByItsWords(t *testing.T) {
	r := rand.New(rand.NewPCG(8, 6))
	met := [2]int{}
	for range 20000 {
		f, l := pick(r, -1, 0, 1, 1, 2, 2, 3, 4), answers().someList(r)
		for i := range l {
			l[i].View = r.IntN(7) - 3
		}
		if want, ok := wantSettle(f, l); ok {
			met[1]++
			expectSettle(t, "at random", f, l, want)
		} else {
			met[0]++
			expectUnsettled(t, "at random", f, l)
		}
	}
	if min(met[0], met[1]) < 1000 {
		t.Error("too few of some:", met)
	}
}
