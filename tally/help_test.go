package tally_test

import (
	"math"
	"math/big"
	"math/rand/v2"
	"reflect"
	"slices"
	"testing"

	"amnesia/api"
	"amnesia/client"
	"amnesia/tally"
)

// kind is one of the four kinds of votes, for tests that hold for all of them.
type kind[A any] struct {
	check func(api.Config, int, []A) api.Errno
	put   func([]A, A) []A
	prune func([]A, api.Vector) []A
	node  func(*A) *int
	draw  func(*A) *api.Draw
	log   func(*A) *[]api.Entry // nil: such a vote has none
	rank  func(A) [3]int        // of two votes of one life the one is greater whose rank is, from the left
	set   func(*A, [3]int)      // a vote of that rank
	mayBe func(api.Config, A) bool
}

func acks() kind[api.Ack] {
	return kind[api.Ack]{
		check: tally.CheckAcks, put: tally.PutAck, prune: tally.PruneAcks,
		node:  func(a *api.Ack) *int { return &a.Node },
		draw:  func(a *api.Ack) *api.Draw { return &a.Draw },
		rank:  func(a api.Ack) [3]int { return [3]int{a.Place} },
		set:   func(a *api.Ack, r [3]int) { a.Place = r[0] },
		mayBe: func(c api.Config, a api.Ack) bool { return a.Place >= 0 && a.Place <= c.Room },
	}
}

func marks() kind[api.Mark] {
	return kind[api.Mark]{
		check: tally.CheckMarks, put: tally.PutMark, prune: tally.PruneMarks,
		node:  func(m *api.Mark) *int { return &m.Node },
		draw:  func(m *api.Mark) *api.Draw { return &m.Draw },
		rank:  func(api.Mark) [3]int { return [3]int{} },
		set:   func(*api.Mark, [3]int) {},
		mayBe: func(api.Config, api.Mark) bool { return true },
	}
}

func ballots() kind[api.Ballot] {
	return kind[api.Ballot]{
		check: tally.CheckBallots, put: tally.PutBallot, prune: tally.PruneBallots,
		node: func(b *api.Ballot) *int { return &b.Node },
		draw: func(b *api.Ballot) *api.Draw { return &b.Draw },
		log:  func(b *api.Ballot) *[]api.Entry { return &b.Log },
		rank: func(b api.Ballot) [3]int { return [3]int{b.Last, len(b.Log), b.Commit} },
		set: func(b *api.Ballot, r [3]int) {
			b.Last, b.Log, b.Commit = r[0], logOf(b.Node, r[1]), r[2]
		},
		mayBe: func(c api.Config, b api.Ballot) bool {
			return b.Last >= 0 && b.Last <= 1<<32 && wantLog(b.Log, b.Commit, c.Room)
		},
	}
}

func answers() kind[api.Answer] {
	return kind[api.Answer]{
		check: tally.CheckAnswers, put: tally.PutAnswer, prune: tally.PruneAnswers,
		node: func(a *api.Answer) *int { return &a.Node },
		draw: func(a *api.Answer) *api.Draw { return &a.Draw },
		log:  func(a *api.Answer) *[]api.Entry { return &a.Log },
		rank: func(a api.Answer) [3]int { return [3]int{a.View, len(a.Log), a.Commit} },
		set: func(a *api.Answer, r [3]int) {
			a.View, a.Log, a.Commit = r[0], logOf(a.Node, r[1]), r[2]
		},
		mayBe: func(c api.Config, a api.Answer) bool {
			if a.View < 0 || a.View > 1<<32 || !wantLog(a.Log, a.Commit, c.Room) {
				return false
			}
			return a.View%(2*c.F+1) == a.Node || len(a.Log) == 0 && a.Commit == 0
		},
	}
}

// wantLog: may the log and its commit number be? Asked in another way than the program does.
func wantLog(l []api.Entry, commit, room int) bool {
	_, e := client.Table(l, commit)
	return e == api.OK && len(l) <= room
}

// A log of so many entries that tells by its slots whose it is.
func logOf(node, n int) []api.Entry {
	var l []api.Entry
	for i := range n {
		l = append(l, api.Entry{Client: i % 16, Number: i + 1, Op: api.Op{Kind: api.OpWrite, Slot: 10*(node&15) + i%10, Value: "v"}})
	}
	return l
}

func lo(n uint64) api.Draw { return api.Draw{Lo: n} }

// vote: one of that node, draw and rank.
func (k kind[A]) vote(node int, d api.Draw, rank [3]int) A {
	var v A
	*k.node(&v), *k.draw(&v) = node, d
	k.set(&v, rank)
	return v
}

// nodes: the votes' nodes in their order.
func (k kind[A]) nodes(l []A) []int {
	nodes := []int{}
	for i := range l {
		nodes = append(nodes, *k.node(&l[i]))
	}
	return nodes
}

// own: the votes in memory of their own, nil for empty logs, so that they can be compared whole and kept.
func (k kind[A]) own(l []A) []A {
	c := []A{}
	for _, v := range l {
		if k.log != nil {
			*k.log(&v) = append([]api.Entry(nil), *k.log(&v)...)
		}
		c = append(c, v)
	}
	return c
}

func (k kind[A]) same(a, b []A) bool { return reflect.DeepEqual(k.own(a), k.own(b)) }

func (k kind[A]) expect(t *testing.T, what string, got []A, want ...A) {
	t.Helper()
	if !k.same(got, want) {
		t.Fatalf("%s: %v, want %v", what, got, want)
	}
}

func asNumber(d api.Draw) *big.Int {
	n := new(big.Int).SetUint64(d.Hi)
	return n.Add(n.Lsh(n, 64), new(big.Int).SetUint64(d.Lo))
}

// wins: does a new vote take an old one's place?
func (k kind[A]) wins(v, old A) bool {
	if order := asNumber(*k.draw(&v)).Cmp(asNumber(*k.draw(&old))); order != 0 {
		return order > 0
	}
	a, b := k.rank(v), k.rank(old)
	return slices.Compare(a[:], b[:]) > 0
}

// wantPut is P8.2 in another way: the list is gone through once, and laid down anew.
func (k kind[A]) wantPut(l []A, v A) []A {
	known := slices.Contains(k.nodes(l), *k.node(&v))
	want, placed := []A{}, false
	for _, old := range l {
		switch a, b := *k.node(&old), *k.node(&v); {
		case placed:
		case a == b:
			placed = true
			if k.wins(v, old) {
				old = v
			}
		case a > b && !known:
			want, placed = append(want, v), true
		}
		want = append(want, old)
	}
	if !placed {
		want = append(want, v)
	}
	return want
}

func (k kind[A]) wantPrune(l []A, v api.Vector) []A {
	want := []A{}
	for _, given := range l {
		over := false
		for i, d := range v {
			over = over || i == *k.node(&given) && asNumber(*k.draw(&given)).Cmp(asNumber(d)) < 0
		}
		if !over {
			want = append(want, given)
		}
	}
	return want
}

func (k kind[A]) wantCheck(c api.Config, self int, l []A) api.Errno {
	if c.F != 1 && c.F != 2 && c.F != 3 || c.Room <= 0 || c.Room > 256 {
		return api.ErrConfig
	}
	nodes := k.nodes(l)
	right := slices.IsSorted(nodes) && len(slices.Compact(slices.Clone(nodes))) == len(nodes) && !slices.Contains(nodes, self)
	for i, v := range l {
		right = right && nodes[i] >= 0 && nodes[i] <= 2*c.F && k.mayBe(c, v)
	}
	if !right {
		return api.ErrTally
	}
	return api.OK
}

func pick[T any](r *rand.Rand, l ...T) T { return l[r.IntN(len(l))] }

var edges = []int{math.MinInt, math.MinInt + 1, -1 << 32, -8, -2, -1, 0, 1, 2, 3, 4, 6, 7, 255, 256, 257, 1<<32 - 1, 1 << 32, 1<<32 + 1, math.MaxInt - 1, math.MaxInt}

// someDraw: often the same, by either half.
func someDraw(r *rand.Rand) api.Draw {
	return pick(r, api.Draw{}, lo(1), lo(2), api.Draw{Hi: 1}, api.Draw{Hi: 1, Lo: 1}, api.Draw{Lo: math.MaxUint64}, api.Draw{Hi: math.MaxUint64, Lo: math.MaxUint64})
}

// some: a vote that may be or nearly, of one of the nodes -1 to 4; ranks are often alike.
func (k kind[A]) some(r *rand.Rand) A {
	return k.vote(r.IntN(6)-1, someDraw(r), [3]int{r.IntN(3), r.IntN(3), r.IntN(3)})
}

// someList: of any order, a node more than once.
func (k kind[A]) someList(r *rand.Rand) []A {
	var l []A
	for range r.IntN(6) {
		l = append(l, k.some(r))
	}
	return l
}

// rising: a list in which each node stands once, in order; of votes that may be held by self, 0 to n - 1.
func (k kind[A]) rising(r *rand.Rand, c api.Config, self int) []A {
	var l []A
	for node := range 2*c.F + 1 {
		if v, ok := k.right(r, c, node); ok && node != self && r.IntN(3) > 0 {
			l = append(l, v)
		}
	}
	return l
}

// right: a vote of that node that may stand in a list of its own; false where none came up.
func (k kind[A]) right(r *rand.Rand, c api.Config, node int) (A, bool) {
	for range 50 {
		v := k.vote(node, someDraw(r), [3]int{r.IntN(8), r.IntN(4), r.IntN(4)})
		if k.mayBe(c, v) {
			return v, true
		}
	}
	return *new(A), false
}

// Configurations that may be: the patience and the guard have no part.
func configs() []api.Config {
	return []api.Config{{F: 1, Room: 4, Patience: 6}, {F: 1, Room: 1}, {F: 2, Room: 9, Patience: -1, Unguarded: true}, {F: 3, Room: 256, Patience: math.MaxInt}}
}
