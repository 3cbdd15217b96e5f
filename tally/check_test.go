package tally_test

import (
	"math"
	"math/rand/v2"
	"testing"

	"amnesia/api"
	"amnesia/tally"
)

// P8.1: checks.

var five = api.Config{F: 2, Room: 3} // nodes 0 to 4

func (k kind[A]) expectCheck(t *testing.T, what string, c api.Config, self int, l []A, want api.Errno) {
	t.Helper()
	if e := k.check(c, self, l); e != want {
		t.Fatalf("%s: %+v, self %d, %+v: %d, want %d", what, c, self, l, e, want)
	}
}

// zeros: votes of these nodes that say nothing.
func (k kind[A]) zeros(nodes ...int) []A {
	var l []A
	for _, node := range nodes {
		l = append(l, k.vote(node, api.Draw{}, [3]int{}))
	}
	return l
}

func testCheckConfig[A any](t *testing.T, k kind[A]) {
	good, bad := k.zeros(0, 2), k.zeros(2, 0)
	for _, f := range edges {
		for _, room := range edges {
			for _, patience := range []int{math.MinInt, 0, 6, 101} {
				c := api.Config{F: f, Room: room, Patience: patience, Unguarded: patience == 0}
				mayBe := f >= 1 && f <= 3 && room >= 1 && room <= 256
				want, wantBad := api.ErrConfig, api.ErrConfig
				if mayBe {
					want, wantBad = api.OK, api.ErrTally
				}
				k.expectCheck(t, "good", c, 1, good, want)
				k.expectCheck(t, "bad", c, 1, bad, wantBad)
				k.expectCheck(t, "none", c, 1, nil, want)
				k.expectCheck(t, "empty", c, 1, []A{}, want)
			}
		}
	}
}

func testCheckNodes[A any](t *testing.T, k kind[A]) {
	for _, c := range []struct {
		self  int
		nodes []int
		want  api.Errno
	}{
		{2, []int{0, 1, 3, 4}, api.OK},
		{0, []int{1, 2, 3, 4}, api.OK},
		{4, []int{0, 1, 2, 3}, api.OK},
		{0, []int{4}, api.OK},
		{4, []int{0}, api.OK},
		{-1, []int{0, 1, 2, 3, 4}, api.OK}, // self may be any number
		{5, []int{0, 1, 2, 3, 4}, api.OK},
		{math.MinInt, []int{0, 4}, api.OK},
		{math.MaxInt, []int{0, 4}, api.OK},
		{2, []int{1, 0}, api.ErrTally},
		{2, []int{0, 3, 1}, api.ErrTally},
		{2, []int{0, 0}, api.ErrTally},
		{2, []int{0, 1, 1}, api.ErrTally},
		{2, []int{4, 4}, api.ErrTally},
		{2, []int{-1}, api.ErrTally},
		{2, []int{-1, 0}, api.ErrTally},
		{2, []int{math.MinInt, 0}, api.ErrTally},
		{2, []int{5}, api.ErrTally},
		{2, []int{0, 4, 5}, api.ErrTally},
		{2, []int{0, math.MaxInt}, api.ErrTally},
		{2, []int{2}, api.ErrTally},
		{2, []int{0, 2, 4}, api.ErrTally},
		{0, []int{0, 1}, api.ErrTally},
		{4, []int{3, 4}, api.ErrTally},
		{-1, []int{-1, 0}, api.ErrTally},
	} {
		k.expectCheck(t, "nodes", five, c.self, k.zeros(c.nodes...), c.want)
	}
	for f := 1; f <= api.MaxF; f++ {
		n := 2*f + 1
		k.expectCheck(t, "the last", api.Config{F: f, Room: 1}, 0, k.zeros(n-1), api.OK)
		k.expectCheck(t, "behind the last", api.Config{F: f, Room: 1}, 0, k.zeros(n), api.ErrTally)
	}
}

// Any draws may stand there.
func testCheckDraws[A any](t *testing.T, k kind[A]) {
	l := k.zeros(0, 1, 3, 4)
	*k.draw(&l[0]) = api.Draw{Hi: math.MaxUint64, Lo: math.MaxUint64}
	*k.draw(&l[1]) = lo(7)
	*k.draw(&l[2]) = api.Draw{Hi: 1}
	k.expectCheck(t, "draws", five, 2, l, api.OK)
}

// Of a list that may be one vote is spoilt, wherever it stands.
func testCheckEveryVote[A any](t *testing.T, k kind[A], wrong func(*A)) {
	for at := range 4 {
		l := k.zeros(0, 1, 3, 4)
		wrong(&l[at])
		k.expectCheck(t, "one is wrong", five, 2, l, api.ErrTally)
	}
}

func TestCheckAlike(t *testing.T) {
	t.Run("acks", func(t *testing.T) { testCheckAlike(t, acks()) })
	t.Run("marks", func(t *testing.T) { testCheckAlike(t, marks()) })
	t.Run("ballots", func(t *testing.T) { testCheckAlike(t, ballots()) })
	t.Run("answers", func(t *testing.T) { testCheckAlike(t, answers()) })
}

func testCheckAlike[A any](t *testing.T, k kind[A]) {
	testCheckConfig(t, k)
	testCheckNodes(t, k)
	testCheckDraws(t, k)
}

func TestCheckOfAcks(t *testing.T) {
	for _, c := range []struct {
		room, place int
		want        api.Errno
	}{
		{3, 0, api.OK}, {3, 3, api.OK}, {1, 1, api.OK}, {256, 256, api.OK},
		{3, -1, api.ErrTally}, {3, 4, api.ErrTally}, {1, 2, api.ErrTally}, {256, 257, api.ErrTally},
		{3, math.MinInt, api.ErrTally}, {3, math.MaxInt, api.ErrTally},
	} {
		acks().expectCheck(t, "place", api.Config{F: 2, Room: c.room}, 2, []api.Ack{{Node: 1, Place: c.place}}, c.want)
	}
	testCheckEveryVote(t, acks(), func(a *api.Ack) { a.Place = -1 })
	testCheckEveryVote(t, acks(), func(a *api.Ack) { a.Place = 4 })
	if e := tally.CheckAcks(api.Config{F: 1, Room: 4}, 1, []api.Ack{{Node: 1, Draw: lo(1)}}); e != api.ErrTally {
		t.Error("example 6:", e)
	}
}

// Logs that may not be, in a room of 3: too long, and each error of an entry.
func wrongLogs() [][]api.Entry {
	spoilt := func(spoil func(*api.Entry)) []api.Entry {
		l := logOf(0, 2)
		spoil(&l[1])
		return l
	}
	return [][]api.Entry{
		logOf(0, 4),
		logOf(0, 300),
		make([]api.Entry, 1),
		spoilt(func(e *api.Entry) { e.Client = 16 }),
		spoilt(func(e *api.Entry) { e.Client = -1 }),
		spoilt(func(e *api.Entry) { e.Number = 0 }),
		spoilt(func(e *api.Entry) { e.Op.Kind = 9 }),
		spoilt(func(e *api.Entry) { e.Op.Slot = 1024 }),
		spoilt(func(e *api.Entry) { e.Client, e.Number = 0, 1 }),
	}
}

func TestCheckOfBallots(t *testing.T) {
	k := ballots()
	for _, c := range []struct {
		last, length, commit int
		want                 api.Errno
	}{
		{0, 0, 0, api.OK}, {7, 3, 0, api.OK}, {7, 3, 3, api.OK}, {1 << 32, 1, 1, api.OK},
		{-1, 0, 0, api.ErrTally}, {1<<32 + 1, 0, 0, api.ErrTally}, {math.MinInt, 1, 1, api.ErrTally}, {math.MaxInt, 1, 1, api.ErrTally},
		{7, 3, -1, api.ErrTally}, {7, 3, 4, api.ErrTally}, {7, 2, 3, api.ErrTally}, {0, 0, 1, api.ErrTally}, {0, 0, -1, api.ErrTally},
		{7, 3, math.MinInt, api.ErrTally}, {7, 3, math.MaxInt, api.ErrTally}, {7, 4, 0, api.ErrTally},
	} {
		k.expectCheck(t, "ballot", five, 2, []api.Ballot{k.vote(1, lo(5), [3]int{c.last, c.length, c.commit})}, c.want)
	}
	k.expectCheck(t, "full", api.Config{F: 3, Room: 256}, 2, []api.Ballot{k.vote(1, lo(5), [3]int{3, 256, 256})}, api.OK)
	for _, log := range wrongLogs() {
		testCheckEveryVote(t, k, func(b *api.Ballot) { b.Log = log })
	}
	testCheckEveryVote(t, k, func(b *api.Ballot) { b.Last = -1 })
	testCheckEveryVote(t, k, func(b *api.Ballot) { b.Last = 1<<32 + 1 })
	testCheckEveryVote(t, k, func(b *api.Ballot) { b.Commit = 1 })
	testCheckEveryVote(t, k, func(b *api.Ballot) { b.Commit = -1 })
}

func TestCheckOfAnswers(t *testing.T) {
	k := answers()
	for _, c := range []struct {
		node, view, length, commit int
		want                       api.Errno
	}{
		{0, 0, 0, 0, api.OK}, {1, 0, 0, 0, api.OK}, {0, 0, 3, 2, api.OK}, {3, 3, 3, 3, api.OK}, {3, 8, 1, 0, api.OK},
		{1, 1 << 32, 2, 2, api.OK}, {0, 1 << 32, 0, 0, api.OK}, // 2^32 is 1 modulo 5
		{1, 0, 1, 0, api.ErrTally}, {3, 4, 3, 3, api.ErrTally}, {0, 1 << 32, 2, 2, api.ErrTally}, {3, 5, 1, 0, api.ErrTally}, {0, 3, 1, 1, api.ErrTally},
		{0, -1, 0, 0, api.ErrTally}, {4, -1, 1, 0, api.ErrTally}, {0, -5, 1, 0, api.ErrTally}, {0, math.MinInt, 0, 0, api.ErrTally},
		{0, 1<<32 + 1, 0, 0, api.ErrTally}, {3, 1<<32 + 2, 1, 0, api.ErrTally}, {0, math.MaxInt, 0, 0, api.ErrTally},
		{0, 0, 3, -1, api.ErrTally}, {0, 0, 3, 4, api.ErrTally}, {0, 0, 0, 1, api.ErrTally}, {1, 0, 0, 1, api.ErrTally}, {1, 0, 0, -1, api.ErrTally},
		{0, 0, 3, math.MinInt, api.ErrTally}, {0, 0, 3, math.MaxInt, api.ErrTally}, {0, 0, 4, 0, api.ErrTally},
	} {
		k.expectCheck(t, "answer", five, 2, []api.Answer{k.vote(c.node, lo(5), [3]int{c.view, c.length, c.commit})}, c.want)
	}
	// The primary of a view hangs on how many there are.
	for f := 1; f <= api.MaxF; f++ {
		for node := range 2*f + 1 {
			want := api.ErrTally
			if 12%(2*f+1) == node {
				want = api.OK
			}
			k.expectCheck(t, "primary", api.Config{F: f, Room: 256}, -1, []api.Answer{k.vote(node, lo(5), [3]int{12, 1, 1})}, want)
		}
	}
	k.expectCheck(t, "full", api.Config{F: 3, Room: 256}, 2, []api.Answer{k.vote(1, lo(5), [3]int{8, 256, 256})}, api.OK)
	for _, log := range wrongLogs() {
		testCheckEveryVote(t, k, func(a *api.Answer) { a.View, a.Log = a.Node, log })
	}
	testCheckEveryVote(t, k, func(a *api.Answer) { a.View = -1 })
	testCheckEveryVote(t, k, func(a *api.Answer) { a.View = 1<<32 + 1 })
	testCheckEveryVote(t, k, func(a *api.Answer) { a.Commit = 1 })
	testCheckEveryVote(t, k, func(a *api.Answer) { a.View, a.Log = a.Node+1, logOf(0, 1) })
	if e := tally.CheckAnswers(api.Config{F: 1, Room: 4}, 2, []api.Answer{{Node: 1, Log: logOf(1, 1)}}); e != api.ErrTally {
		t.Error("example 6:", e)
	}
}

// Lists at random against the words, most of them nearly right.
func TestCheckByItsWords(t *testing.T) {
	t.Run("acks", func(t *testing.T) { testCheckByItsWords(t, acks()) })
	t.Run("marks", func(t *testing.T) { testCheckByItsWords(t, marks()) })
	t.Run("ballots", func(t *testing.T) { testCheckByItsWords(t, ballots()) })
	t.Run("answers", func(t *testing.T) { testCheckByItsWords(t, answers()) })
}

func testCheckByItsWords[A any](t *testing.T, k kind[A]) {
	r := rand.New(rand.NewPCG(8, 1))
	met := make(map[api.Errno]int)
	for range 20000 {
		c := pick(r, configs()...)
		if r.IntN(10) == 0 {
			c = api.Config{F: pick(r, edges...), Room: pick(r, edges...)}
		}
		self := r.IntN(9) - 1
		l := k.rising(r, pick(r, configs()...), self)
		switch r.IntN(6) {
		case 0:
			l = append(l, k.some(r))
		case 1:
			l = k.someList(r)
		case 2:
			if len(l) > 0 {
				*k.node(&l[r.IntN(len(l))]) = pick(r, edges...)
			}
		}
		want := k.wantCheck(c, self, l)
		met[want]++
		k.expectCheck(t, "at random", c, self, l, want)
	}
	if met[api.OK] < 1000 || met[api.ErrTally] < 1000 || met[api.ErrConfig] < 1000 {
		t.Error("too few of some:", met)
	}
}
