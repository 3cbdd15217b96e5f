package linear_test

import (
	"math"
	"slices"
	"testing"

	"amnesia/api"
	"amnesia/linear"
)

// P18.6: Search.

func TestHowManyAreSearched(t *testing.T) {
	expectSearch(t, reads(0))
	expectSearch(t, reads(1), 0)
	expectSearch(t, reads(7), 0, 1, 2, 3, 4, 5, 6)
	expectSearch(t, reads(8), 0, 1, 2, 3, 4, 5, 6, 7)
	for _, n := range []int{9, 10, 64, 1000} {
		l := reads(n)
		if order, is, e := linear.Search(l); e != api.ErrMany || is || len(order) != 0 {
			t.Fatal(n, order, is, e)
		}
		for i := range l {
			l[i] = unanswered(l[i]) // nor those that would have the empty witness
		}
		if order, is, e := linear.Search(l); e != api.ErrMany || is || len(order) != 0 {
			t.Fatal(n, order, is, e)
		}
		if row, e := linear.Worst(l); e != api.ErrMany || row != 0 {
			t.Fatal(n, row, e)
		}
	}
}

// Of several witnesses the least one: by the first number that is not the same, and the shorter ahead of what goes on from it.
func TestTheLeastWitness(t *testing.T) {
	at := func(client int, op api.Op, result api.Result) api.Call { return called(client, op, 0, 9, result) }
	expectSearch(t, calls(at(0, read(1), none(1)), at(1, read(2), none(2)), at(2, count, counted(0))), 0, 1, 2)
	expectSearch(t, calls(at(0, count, counted(1)), at(1, read(2), none(2)), at(2, add("x"), written(0, "x"))), 1, 2, 0)
	expectSearch(t, calls(at(0, count, counted(1)), at(1, add("x"), written(0, "x")), at(2, read(2), none(2))), 1, 0, 2)
	// A call that is not answered stands in it where the order is less with it, and not behind the last that is asked for.
	expectSearch(t, calls(waits(0, read(1), 0), at(1, read(1), none(1))), 0, 1)
	expectSearch(t, calls(at(0, read(1), none(1)), waits(1, read(1), 0)), 0)
	expectSearch(t, calls(waits(0, write(1, "a"), 0), at(1, read(1), none(1))), 1)
	expectSearch(t, calls(waits(0, write(1, "a"), 0), at(1, read(1), none(1)), at(2, read(2), none(2))), 1, 0, 2)
	expectSearch(t, calls(at(0, read(1), none(1)), waits(1, write(2, "a"), 0), at(2, read(2), none(2))), 0, 2)
	expectSearch(t, calls(waits(0, count, 0), waits(1, count, 0), at(2, count, counted(0)), waits(3, count, 0)), 0, 1, 2)
	expectSearch(t, calls(waits(0, count, 5), waits(1, add("x"), 0)))
}

// The same calls done, and another ledger behind them: what was tried in vain with the one is not in vain with the other.
func TestTheSameCallsAnotherLedger(t *testing.T) {
	a, b := waits(0, write(7, "a"), 0), waits(1, write(7, "b"), 0)
	expectSearch(t, calls(a, b, called(2, read(7), 0, 9, found(7, "b"))), 1, 0, 2)
	x, y := waits(0, add("x"), 0), waits(1, add("y"), 0)
	expectSearch(t, calls(x, y, called(2, read(1), 0, 9, found(1, "x"))), 1, 0, 2)
	expectSearch(t, calls(x, y, waits(3, add("z"), 0), called(2, read(2), 0, 9, found(2, "x"))), 1, 2, 0, 3)
	last := waits(3, write(1023, "e"), 0)
	expectSearch(t, calls(last, x, called(2, count, 5, 9, counted(2))), 1, 0, 2)
	expectSearch(t, calls(waits(4, write(0, ""), 0), x, called(2, count, 5, 9, counted(1)), called(5, read(0), 0, 9, found(0, ""))), 0, 2, 1, 3)
}

func TestNoWitness(t *testing.T) {
	expectNone(t, calls(called(0, read(1), 0, 4, found(1, "a"))), 4)
	expectNone(t, calls(called(0, read(1), 0, 4, none(2))), 4)
	expectNone(t, calls(called(0, read(1), 0, math.MaxInt, found(1, "a"))), math.MaxInt)
	expectNone(t, calls(called(0, count, 0, 1, res(api.ResRefused, 0, ""))), 1)
	expectNone(t, calls(called(0, count, 0, 1, api.Result{})), 1)
	expectNone(t, calls(waits(0, write(1, "a"), 5), called(1, read(1), 0, 4, found(1, "a")), called(2, read(1), 6, 7, none(1))), 4) // the write was asked too late to be read
	// Two can not both be the first.
	expectNone(t, calls(called(0, write(1, "a"), 0, 9, written(1, "a")), called(1, write(1, "b"), 0, 9, written(1, "b"))), 9)
	expectNone(t, calls(called(0, add("x"), 0, 1, written(0, "x")), called(1, add("y"), 2, 3, written(0, "y"))), 3)
	expectNone(t, calls(called(0, write(1023, "e"), 0, 1, written(1023, "e")), called(1, add("y"), 2, 3, written(0, "y"))), 3)
}

// Full ledgers and slots that are taken.
func TestFullAndTaken(t *testing.T) {
	end := called(0, write(1023, "e"), 4, 9, written(1023, "e"))
	expectSearch(t, calls(called(1, add("x"), 0, 9, full), end), 1, 0)
	expectSearch(t, calls(end, called(1, add("x"), 0, 9, written(0, "x"))), 1, 0)
	expectSearch(t, calls(called(1, add("x"), 0, 9, full), unanswered(end)), 1, 0)
	expectNone(t, calls(called(1, add("x"), 0, 3, full), end), 3)
	expectSearch(t, calls(called(1, write(1, "b"), 0, 9, taken(1, "a")), called(2, write(1, "a"), 0, 9, written(1, "a"))), 1, 0)
	expectSearch(t, calls(called(1, write(1, "b"), 0, 9, taken(1, "a")), waits(2, write(1, "a"), 8)), 1, 0)
	expectNone(t, calls(called(1, write(1, "b"), 0, 9, taken(1, "a")), waits(2, write(1, "a"), 10)), 9)
	expectSearch(t, calls(called(1, write(1, "b"), 0, 9, taken(1, "x")), called(2, add("x"), 0, 9, written(1, "x")), called(3, write(0, "z"), 0, 9, written(0, "z"))), 2, 1, 0)
}

// The greatest numbers are numbers like any other.
func TestSearchAtTheEnds(t *testing.T) {
	end := math.MaxInt
	l := calls(called(0, write(7, "a"), end-1, end, written(7, "a")), waits(1, read(7), end), numbered(api.MaxNumber, called(15, read(7), 0, end-1, none(7))))
	expectSearch(t, l, 2, 0)
	l[2].Result = found(7, "a")
	expectSearch(t, l, 0, 2)
	l[2].End, l[2].Result = 1, found(7, "a")
	expectNone(t, l, 1)
	l[2].Begin, l[2].End, l[2].Result = end-1, end, found(7, "b")
	expectNone(t, l, end)
	l[0].Begin, l[0].End = 0, end-2
	l[2].Result = none(7)
	expectNone(t, l, end)
}

func TestAgainstAllOrders(t *testing.T) {
	t.Parallel()
	met := make(map[string]int)
	for seed := range uint64(5000) {
		r := seeded(30000 + seed)
		l := someHistory(r, r.IntN(6), anyOp)
		want, is := modelSearch(l)
		if !is {
			met["none"]++
			expectNone(t, l, modelWorst(l))
			continue
		}
		expectSearch(t, l, want...)
		met["witness"]++
		if slices.ContainsFunc(want, func(place int) bool { return l[place].End < 0 }) {
			met["unanswered in it"]++
		}
		if !slices.IsSorted(want) {
			met["not as they stand"]++
		}
	}
	expectEnough(t, met, map[string]int{"none": 300, "witness": 1000, "unanswered in it": 100, "not as they stand": 500})
}

// So many as a search takes.
func TestMaxCallsAgainstAllOrders(t *testing.T) {
	t.Parallel()
	met := make(map[bool]int)
	for seed := range uint64(40) {
		l := someHistory(seeded(40000+seed), api.MaxCalls, anyOp)
		order, is, e := linear.Search(l)
		want, found := modelSearch(l)
		if e != api.OK || is != found || !slices.Equal(order, want) {
			t.Fatal(seed, order, is, want, found)
		}
		met[is]++
	}
	expectEnough(t, met, map[bool]int{true: 15, false: 5})
}

// A search ends soon, however many orders there are.
func TestTheHardestSearch(t *testing.T) {
	for _, ops := range [][]api.Op{{add("a"), add("b"), add("c"), add("d"), add("e"), add("f"), add("g")}, {read(1), read(2), read(3), count, count, count, count}} {
		var l []api.Call
		for i, op := range ops {
			l = append(l, waits(i, op, 0))
		}
		expectNone(t, append(l, called(9, read(1), 0, 1, found(1, "nobody's"))), 1)
	}
}
