package linear_test

import (
	"math"
	"testing"

	"amnesia/api"
	"amnesia/linear"
)

// P18.7: Cut.

func TestCutBelowTheFirstRow(t *testing.T) {
	for _, l := range [][]api.Call{nil, reads(1), reads(9), calls(waits(0, count, 0))} {
		for _, row := range []int{math.MinInt, -1 << 32, -2, -1} {
			if cut, e := linear.Cut(l, row); e != api.ErrArg || len(cut) != 0 {
				t.Fatal(row, cut, e)
			}
		}
		expectCut(t, l, 0)
		expectCut(t, l, math.MaxInt, l...)
	}
}

func TestCutRowByRow(t *testing.T) {
	a, b, c := called(0, write(7, "a"), 0, 5, written(7, "a")), waits(1, read(7), 2), called(2, read(7), 3, 5, found(7, "a"))
	d := called(3, count, 4, 8, counted(1))
	l := calls(d, a, c, b) // in their order, whichever was asked first
	expectCut(t, l, 1, unanswered(a))
	expectCut(t, l, 2, unanswered(a))
	expectCut(t, l, 3, unanswered(a), b)
	expectCut(t, l, 4, unanswered(a), unanswered(c), b)
	expectCut(t, l, 5, unanswered(d), unanswered(a), unanswered(c), b)
	expectCut(t, l, 6, unanswered(d), a, c, b)
	expectCut(t, l, 8, unanswered(d), a, c, b)
	expectCut(t, l, 9, d, a, c, b)
}

func TestCutAtTheGreatestNumbers(t *testing.T) {
	end := math.MaxInt
	a, b, c := called(0, count, end-2, end-1, counted(0)), called(1, count, end-1, end, counted(0)), waits(2, count, end)
	l := calls(a, b, c)
	expectCut(t, l, 0)
	expectCut(t, l, end-2)
	expectCut(t, l, end-1, unanswered(a))
	expectCut(t, l, end, a, unanswered(b)) // what is in the greatest row is ahead of none
}

// Any number of calls may be cut; an answer without a result is one too.
func TestCutOfAnyHistories(t *testing.T) {
	t.Parallel()
	for seed := range uint64(1500) {
		r := seeded(50000 + seed)
		l := someHistory(r, r.IntN(30), anyOp)
		for _, row := range append(rowsThatCount(l), 1000, math.MaxInt) {
			expectCut(t, l, row, modelCut(l, row)...)
		}
	}
	zero := called(0, count, 2, 4, api.Result{})
	expectCut(t, calls(zero), 4, unanswered(zero))
	expectCut(t, calls(zero), 5, zero)
}

// A cut of a cut is the lesser one.
func TestCutTwice(t *testing.T) {
	for seed := range uint64(300) {
		r := seeded(55000 + seed)
		l := someHistory(r, 1+r.IntN(8), anyOp)
		for _, row := range rowsThatCount(l) {
			for _, other := range rowsThatCount(l) {
				cut, _ := linear.Cut(l, row)
				expectCut(t, cut, other, modelCut(l, min(row, other))...)
			}
		}
	}
}
