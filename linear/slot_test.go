package linear_test

import (
	"math"
	"testing"

	"amnesia/api"
	"amnesia/linear"
)

// P18.10: Slot.

func TestSlotsThatThereAreNot(t *testing.T) {
	for _, l := range [][]api.Call{nil, reads(1), reads(20), calls(waits(0, count, 0))} {
		for _, slot := range []int{math.MinInt, -1 << 32, -1, 1024, 1025, 1 << 32, math.MaxInt} {
			if of, e := linear.Slot(l, slot); e != api.ErrSlot || len(of) != 0 {
				t.Fatal(slot, of, e)
			}
		}
	}
}

func TestEachKindOfEachSlot(t *testing.T) {
	l := calls(
		waits(0, count, 0), called(1, write(1023, ""), 1, 9, written(1023, "")), called(2, add("x"), 0, 9, full), called(3, read(0), 0, 9, none(0)),
		called(4, read(1023), 0, 9, found(1023, "")), waits(5, write(0, "b"), 0), called(6, add("y"), 0, 9, written(0, "y")), called(7, write(7, "b"), 3, 4, taken(7, "a")),
		called(8, read(7), 3, 4, found(7, "zz")), waits(9, read(0), 0), waits(10, add("w"), 0), called(11, count, 2, 3, counted(0)),
	)
	expectSlot(t, l, 0, l[3], l[5], l[9]) // an append or a count is of no slot, whatever its fields are
	expectSlot(t, l, 1)
	expectSlot(t, l, 6)
	expectSlot(t, l, 7, l[7], l[8])
	expectSlot(t, l, 8)
	expectSlot(t, l, 1022)
	expectSlot(t, l, 1023, l[1], l[4])
}

func TestSlotsOfAnyHistories(t *testing.T) {
	t.Parallel()
	for seed := range uint64(500) {
		r := seeded(80000 + seed)
		l := someHistory(r, r.IntN(30), anyOp)
		for _, slot := range []int{0, 1, 2, 1022, 1023} {
			expectSlot(t, l, slot, modelSlot(l, slot)...)
		}
	}
}
