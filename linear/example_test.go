package linear_test

import (
	"testing"

	"amnesia/api"
	"amnesia/linear"
)

// The chapter's examples.

func TestExampleAReadAheadOfTheWrite(t *testing.T) {
	l := calls(called(0, write(7, "a"), 0, 5, written(7, "a")), called(1, read(7), 2, 3, none(7)))
	expectSearch(t, l, 1, 0)
	expectHolds(t, l, []int{0, 1}, 1)
	l[1].Begin, l[1].End = 6, 7
	expectNone(t, l, 7)
}

func TestExampleAWriteThatIsNeverAnswered(t *testing.T) {
	l := calls(waits(0, write(7, "a"), 0), called(1, read(7), 1, 2, found(7, "a")))
	expectSearch(t, l, 0, 1)
	l[1].Result = none(7)
	expectSearch(t, l, 1)
}

func TestExampleTheFirstWriteWins(t *testing.T) {
	l := calls(called(0, write(7, "a"), 0, 3, written(7, "a")), called(1, write(7, "b"), 1, 2, written(7, "b")))
	expectNone(t, l, 3)
	expectCut(t, l, 3, unanswered(l[0]), l[1])
	cut, _ := linear.Cut(l, 3)
	expectSearch(t, cut, 1)
}

func TestExampleErrors(t *testing.T) {
	if order, is, e := linear.Search(reads(9)); e != api.ErrMany || is || len(order) != 0 {
		t.Fatal(order, is, e)
	}
	expectNoOrder(t, reads(1), 0, 0)
	expectHolds(t, reads(1), nil, 0)
}
