package linear_test

import (
	"math/rand/v2"

	"amnesia/api"
	"amnesia/ledger"
)

// Histories that are drawn.

// anyOp: few slots, so that they meet, the greatest among them, behind which nothing is appended.
func anyOp(r *rand.Rand) api.Op {
	slot := pick(r, 0, 1, 1, 1023)
	return pick(r, write(slot, pick(r, "a", "b", "")), write(slot, pick(r, "a", "c")), add(pick(r, "x", "a")), read(slot), read(slot), count)
}

// slotOp: a write or a read of one of three slots.
func slotOp(r *rand.Rand) api.Op {
	slot := pick(r, 0, 5, 1023)
	return pick(r, write(slot, pick(r, "a", "b", "")), read(slot), read(slot))
}

// goodHistory: each call is done at a moment between its asking and its answer, so that there is a witness. A call that is not answered is done, or not. The places are mixed.
func goodHistory(r *rand.Rand, calls int, op func(*rand.Rand) api.Op) []api.Call {
	l := make([]api.Call, calls)
	wide, lost := pick(r, 1, 3, 6, 50), pick(r, 0, 1, 4)
	numbers := [3]int{1, 1 + r.IntN(3), api.MaxNumber - calls}
	at := ledger.New()
	for i, place := range r.Perm(calls) {
		moment, client := 50+2*i, r.IntN(3)
		c := api.Call{Client: client, Number: numbers[client], Op: op(r), Begin: moment - r.IntN(wide), End: moment + 1 + r.IntN(wide)}
		numbers[client]++
		if r.IntN(10) >= lost {
			c.Result = at.Do(c.Op)
		} else {
			c = unanswered(c)
			if r.IntN(2) == 0 {
				at.Do(c.Op)
			}
		}
		l[place] = c
	}
	return l
}

// spoil: an answered call has the result that it would have behind some of the others, which may be right all the same.
func spoil(r *rand.Rand, l []api.Call) {
	for _, place := range r.Perm(len(l)) {
		if l[place].End < 0 {
			continue
		}
		at := ledger.New()
		for _, other := range r.Perm(len(l))[:r.IntN(len(l))] {
			if other != place {
				at.Do(l[other].Op)
			}
		}
		l[place].Result = at.Would(l[place].Op)
		return
	}
}

// someHistory: one that may have a witness, or not.
func someHistory(r *rand.Rand, calls int, op func(*rand.Rand) api.Op) []api.Call {
	l := goodHistory(r, calls, op)
	for range pick(r, 0, 1, 2, 4) {
		spoil(r, l)
	}
	return l
}

// rowsThatCount: at and beside each row at which something was asked or answered.
func rowsThatCount(l []api.Call) []int {
	rows := []int{0}
	for _, c := range l {
		for _, row := range []int{c.Begin - 1, c.Begin, c.Begin + 1, c.End - 1, c.End, c.End + 1} {
			if row >= 0 {
				rows = append(rows, row)
			}
		}
	}
	return rows
}
