package linear_test

import (
	"math"
	"testing"

	"amnesia/api"
	"amnesia/linear"
)

// P18.8: Worst.

func TestWorstOfTooMany(t *testing.T) {
	expectWorst(t, reads(8), -1)
	for _, n := range []int{9, 10, 500} {
		l := reads(n)
		for range 2 {
			if row, e := linear.Worst(l); e != api.ErrMany || row != 0 {
				t.Fatal(n, row, e)
			}
			l[0].Result = counted(7) // whose least row would be 1
		}
	}
}

// The least row, not the place of the call, and not the first wrong call of the list.
func TestWorstIsTheLeastRow(t *testing.T) {
	l := calls(called(0, count, 10, 11, counted(5)), called(1, count, 3, 9, counted(4)), called(2, count, 4, 6, counted(0)))
	expectNone(t, l, 9)
	l[2].Result = counted(1)
	expectNone(t, l, 6)
	l[0] = unanswered(l[0])
	expectNone(t, l, 6)
	l[2] = waits(2, add("x"), 4)
	expectNone(t, l, 9)
	l[1].Result = counted(1)
	expectSearch(t, l, 2, 1)
}

// An answer can leave none by what was answered before, and what is asked later can't help.
func TestWorstIsTheAnswerThatLeavesNone(t *testing.T) {
	l := calls(called(0, read(1), 0, 8, none(1)), called(1, write(1, "a"), 1, 3, written(1, "a")), called(2, read(1), 4, 5, found(1, "a")), waits(3, write(1, "b"), 9))
	expectSearch(t, l, 0, 1, 2)
	l[0].Begin = 4
	expectNone(t, l, 8)
	l[2].Result = none(1)
	expectNone(t, l, 5)
	l[1].End = 6
	expectSearch(t, l, 0, 2, 1) // at one time with both reads
	l[0].Begin = 7
	expectNone(t, l, 8)
	l[0].Result = found(1, "a")
	expectSearch(t, l, 2, 1, 0)
}

// With no answer there is always one; the row may be the least and the greatest that an answer has.
func TestWorstAtTheEnds(t *testing.T) {
	expectWorst(t, nil, -1)
	expectWorst(t, calls(waits(0, count, 0), waits(1, count, math.MaxInt)), -1)
	expectWorst(t, calls(called(0, count, 0, 1, counted(1))), 1)
	expectWorst(t, calls(called(0, count, 0, math.MaxInt, counted(1)), waits(1, read(1), math.MaxInt)), math.MaxInt)
	expectWorst(t, calls(called(0, count, math.MaxInt-1, math.MaxInt, counted(0)), waits(1, add("x"), math.MaxInt)), -1)
	// Known with that row: a call that is asked in the row of the answer was known too.
	expectWorst(t, calls(called(0, count, 0, 5, counted(1)), waits(1, add("x"), 5)), -1)
	expectWorst(t, calls(called(0, count, 0, 5, counted(1)), waits(1, add("x"), 6)), 5)
	// Two answers in one row.
	expectWorst(t, calls(called(0, write(1, "a"), 0, 5, written(1, "a")), called(1, write(1, "b"), 0, 5, written(1, "b"))), 5)
}

func TestWorstAgainstEachBeginning(t *testing.T) {
	t.Parallel()
	met := make(map[bool]int)
	for seed := range uint64(2500) {
		r := seeded(60000 + seed)
		l := someHistory(r, 1+r.IntN(8), anyOp)
		want := -1
		for row := 0; row < 200 && want < 0; row++ {
			if _, is, e := linear.Search(modelKnown(l, row)); e != api.OK || !is {
				want = row
			}
		}
		expectWorst(t, l, want)
		met[want < 0]++
	}
	expectEnough(t, met, map[bool]int{true: 500, false: 300})
}
