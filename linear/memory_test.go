package linear_test

import (
	"math"
	"math/rand/v2"
	"reflect"
	"slices"
	"testing"

	"amnesia/api"
	"amnesia/linear"
)

// P2 and P3 of DOC.md: whose memory is whose.

// roomy: a list with something in the room behind its end.
func roomy[T any](l []T, behind T) []T {
	long := append(slices.Clone(l), behind, behind, behind)
	return long[:len(l)]
}

// whole: a list with what is in the room behind its end.
func whole[T any](l []T) []T { return l[:cap(l)] }

// given is what is handed in to the calls of this layer.
type given struct {
	calls []api.Call
	rows  []api.Seen
	order []int
	seq   []api.Entry
	row   int
	slot  int
}

func someGiven(r *rand.Rand) given {
	l := someHistory(r, r.IntN(9), anyOp)
	rows := someRows(r)
	for i := range rows {
		rows[i].Log = roomy([]api.Entry{entry(1, 1, count)}, entry(-9, -9, read(-1)))
		rows[i].Packet.Bytes = roomy([]byte("frame"), 0xa5)
	}
	g := given{calls: l, rows: rows, order: r.Perm(len(l)), seq: someSequence(r, l), row: 40 + r.IntN(40), slot: pick(r, 0, 1, 1023)}
	if order, is, _ := linear.Search(l); is && r.IntN(2) == 0 {
		g.order = order
	}
	g.calls, g.rows = roomy(g.calls, called(-5, api.Op{}, -5, -5, none(-5))), roomy(g.rows, api.Seen{Kind: 77, Node: -5})
	g.order, g.seq = roomy(g.order, -77), roomy(g.seq, entry(-6, -6, count))
	return g
}

// all: a copy of it, and of what is behind its lists.
func (g given) all() given {
	g.calls, g.rows, g.order, g.seq = slices.Clone(whole(g.calls)), slices.Clone(whole(g.rows)), slices.Clone(whole(g.order)), slices.Clone(whole(g.seq))
	for i := range g.rows {
		g.rows[i].Log, g.rows[i].Packet.Bytes = slices.Clone(whole(g.rows[i].Log)), slices.Clone(whole(g.rows[i].Packet.Bytes))
	}
	return g
}

// overwrite: everything else stands in it now, and behind its lists.
func (g given) overwrite() {
	for i := range whole(g.calls) {
		whole(g.calls)[i] = called(9, count, 3, 4, counted(9))
	}
	for i := range whole(g.rows) {
		whole(g.rows)[i] = asked(9, 9, read(9))
	}
	for i := range whole(g.order) {
		whole(g.order)[i] = 3
	}
	for i := range whole(g.seq) {
		whole(g.seq)[i] = entry(9, 9, read(9))
	}
}

// answers is all that the calls of this layer answer.
type answers struct {
	calls, cut, of       []api.Call
	found, order         []int
	is, precedes         bool
	holds, worst         int
	errs                 [5]api.Errno
	callsE, check, slotE api.Errno
}

func answer(g given) answers {
	var a answers
	a.calls, a.callsE = linear.Calls(g.rows)
	a.check = linear.Check(g.calls)
	if len(g.calls) > 1 {
		a.precedes = linear.Precedes(g.calls[0], g.calls[1])
	}
	a.holds, a.errs[0] = linear.Holds(g.calls, g.order)
	a.found, a.is, a.errs[1] = linear.Search(g.calls)
	a.cut, a.errs[2] = linear.Cut(g.calls, g.row)
	a.worst, a.errs[3] = linear.Worst(g.calls)
	a.order, a.errs[4] = linear.Order(g.calls, g.seq)
	a.of, a.slotE = linear.Slot(g.calls, g.slot)
	return a
}

// copied: the same in memory of its own; an empty list is none.
func (a answers) copied() answers {
	some := func(l []api.Call) []api.Call { return append([]api.Call(nil), l...) }
	a.calls, a.cut, a.of = some(a.calls), some(a.cut), some(a.of)
	a.found, a.order = append([]int(nil), a.found...), append([]int(nil), a.order...)
	return a
}

// overwrite: everything else stands in the lists that were answered, and in their spare room.
func (a answers) overwrite() {
	for _, l := range [][]api.Call{a.calls, a.cut, a.of} {
		for i := range whole(l) {
			whole(l)[i] = called(8, read(8), 8, 88, found(8, "8"))
		}
	}
	for _, l := range [][]int{a.found, a.order} {
		for i := range whole(l) {
			whole(l)[i] = 8
		}
	}
}

func expectSame(t *testing.T, seed uint64, got, want answers) {
	t.Helper()
	if !reflect.DeepEqual(got.copied(), want.copied()) {
		t.Fatalf("seed %d: %+v, want %+v", seed, got, want)
	}
}

// What is handed in stays as it was, and so does what lies behind it.
func TestWhatIsHandedInStays(t *testing.T) {
	for seed := range uint64(600) {
		g := someGiven(seeded(300000 + seed))
		all := g.all()
		answer(g)
		if !reflect.DeepEqual(g.all(), all) {
			t.Fatal("something was changed:", seed)
		}
	}
}

// Nothing that was handed in is kept, or shared by an answer; nor do two answers share anything.
func TestAnswersAreNewMemory(t *testing.T) {
	for seed := range uint64(600) {
		r := seeded(310000 + seed)
		g := someGiven(r)
		got := answer(g)
		want := got.copied()
		all := g.all()
		again := answer(g)
		again.overwrite()
		expectSame(t, seed, got, want)
		if !reflect.DeepEqual(g.all(), all) {
			t.Fatal("an answer shares memory with what was handed in:", seed)
		}
		g.overwrite()
		expectSame(t, seed, got, want)
	}
}

// Asked again, with another between, the answer is the same: nothing is kept from call to call.
func TestAskedTwiceWithAnotherBetween(t *testing.T) {
	for seed := range uint64(400) {
		r := seeded(320000 + seed)
		g, other := someGiven(r), someGiven(r)
		want := answer(g).copied()
		answer(other).overwrite()
		other.overwrite()
		got := answer(g)
		expectSame(t, seed, got, want)
		got.overwrite()
		expectSame(t, seed, answer(g), want)
	}
}

// nil and empty lists are the same.
func TestNilAndEmpty(t *testing.T) {
	n := answer(given{}).copied()
	e := answer(given{calls: []api.Call{}, rows: []api.Seen{}, order: []int{}, seq: []api.Entry{}}).copied()
	if !reflect.DeepEqual(n, e) || !n.is || n.holds != -1 || n.worst != -1 || n.errs != [5]api.Errno{} || n.callsE != api.OK || n.slotE != api.OK {
		t.Fatal(n, e)
	}
	for seed := range uint64(100) {
		g := someGiven(seeded(330000 + seed))
		g.order, g.seq = nil, nil
		want := answer(g)
		g.order, g.seq = []int{}, make([]api.Entry, 0, 4)
		expectSame(t, seed, answer(g), want)
	}
}

// P1 and P5 of DOC.md: whatever numbers it is given, a call answers.
func TestAnyNumbers(t *testing.T) {
	numbers := []int{math.MinInt, math.MinInt + 1, -2, -1, 0, 1, 2, 15, 16, 1023, 1024, math.MaxInt - 1, math.MaxInt}
	for seed := range uint64(3000) {
		r := seeded(340000 + seed)
		number := func() int { return pick(r, numbers...) }
		var g given
		for range r.IntN(10) {
			c := api.Call{Client: number(), Number: number(), Op: api.Op{Kind: pick(r, 1, 2, 3, 4, number()), Slot: number()}, Begin: number(), End: number(), Result: res(number(), number(), "")}
			if r.IntN(10) > 0 {
				c.Client, c.Number, c.Op = len(g.calls), 1, anyOp(r)
			}
			if r.IntN(4) > 0 {
				c.Begin = pick(r, 0, 1, math.MaxInt-2, math.MaxInt-1)
				c.End = pick(r, c.Begin+1, math.MaxInt)
			}
			g.calls = append(g.calls, c)
			g.rows = append(g.rows, pick(r, asked(c.Client, c.Number, c.Op), reply(c.Client, c.Number, c.Result), api.Seen{Kind: api.SeenKind(number()), Entry: entryOf(c)}))
			g.order, g.seq = append(g.order, pick(r, number(), r.IntN(4))), append(g.seq, entryOf(c))
		}
		g.row, g.slot = number(), number()
		a := answer(g)
		if (a.check == api.OK) != modelMayBe(g.calls) {
			t.Fatal(seed, a.check, g.calls)
		}
	}
}
