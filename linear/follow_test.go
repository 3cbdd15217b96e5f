package linear_test

import (
	"math/rand/v2"
	"slices"
	"testing"

	"amnesia/api"
	"amnesia/ledger"
	"amnesia/linear"
)

// P18.11 to P18.14: what follows.

func hasWitness(t *testing.T, l []api.Call) bool {
	t.Helper()
	order, is, e := linear.Search(l)
	if e != api.OK {
		t.Fatal(e, l)
	}
	if is {
		expectHolds(t, l, order, -1)
	}
	return is
}

// P18.11: what Search answers is a witness by Holds, and the least; if it finds none, Holds takes no order at all.
func TestASearchFindsWhatThereIs(t *testing.T) {
	t.Parallel()
	met := make(map[bool]int)
	for seed := range uint64(2500) {
		r := seeded(100000 + seed)
		l := someHistory(r, pick(r, 0, 1, 2, 3, 4, 5, 6), anyOp)
		order, is, _ := linear.Search(l)
		met[is]++
		for other := range allOrders(len(l)) {
			at, e := linear.Holds(l, other)
			if e != api.OK {
				t.Fatal(other, e)
			}
			holds, least := at == -1, is && slices.Equal(order, other)
			if holds && !least || !holds && least {
				t.Fatal(seed, "Search:", order, is, "Holds of:", other, at)
			}
			if least {
				break // the lesser ones were gone through
			}
		}
	}
	expectEnough(t, met, map[bool]int{true: 1000, false: 200})
}

// P18.12: of a good history each beginning is good, and so is it with a call that is no longer answered.
func TestABeginningOfAGoodHistoryIsGood(t *testing.T) {
	t.Parallel()
	for seed := range uint64(600) {
		r := seeded(110000 + seed)
		l := goodHistory(r, 1+r.IntN(8), pick(r, anyOp, slotOp))
		if !hasWitness(t, l) {
			t.Fatal("there is one:", seed, l)
		}
		for _, row := range rowsThatCount(l) {
			cut, e := linear.Cut(l, row)
			if e != api.OK || !hasWitness(t, cut) {
				t.Fatal(seed, row, cut, e)
			}
		}
		for place := range l {
			fewer := slices.Clone(l)
			fewer[place] = unanswered(fewer[place])
			if !hasWitness(t, fewer) {
				t.Fatal(seed, place, fewer)
			}
		}
	}
}

// P18.12: Worst is a row at which a call was answered: ahead of it there is a witness, and with it none, nor ever again.
func TestWorstIsARowOfAnAnswer(t *testing.T) {
	t.Parallel()
	bad := 0
	for seed := uint64(0); bad < 400; seed++ {
		r := seeded(120000 + seed)
		l := someHistory(r, 1+r.IntN(8), pick(r, anyOp, slotOp))
		worst, e := linear.Worst(l)
		if e != api.OK {
			t.Fatal(e)
		}
		if worst == -1 {
			if !hasWitness(t, l) {
				t.Fatal(seed, l)
			}
			continue
		}
		bad++
		if !slices.ContainsFunc(l, func(c api.Call) bool { return c.End == worst }) {
			t.Fatal(seed, worst, l)
		}
		for _, row := range append(rowsThatCount(l), worst, worst+1) {
			cut, _ := linear.Cut(l, row)
			if hasWitness(t, cut) != (row <= worst) {
				t.Fatal(seed, worst, row, cut)
			}
		}
	}
}

// P18.13: locality.
func TestLocality(t *testing.T) {
	t.Parallel()
	met := make(map[string]int)
	for seed := range uint64(6000) {
		r := seeded(130000 + seed)
		l := someHistory(r, 2+r.IntN(7), slotOp)
		all, slots := true, 0
		for slot := range api.MaxSlots {
			of := modelSlot(l, slot)
			if len(of) == 0 {
				continue
			}
			expectSlot(t, l, slot, of...)
			slots++
			all = hasWitness(t, of) && all
		}
		if hasWitness(t, l) != all {
			t.Fatal(seed, all, l)
		}
		switch {
		case slots > 1 && all:
			met["good"]++
		case slots > 1:
			met["bad"]++
		}
	}
	expectEnough(t, met, map[string]int{"good": 1000, "bad": 500})
}

// Each slot's calls of a great good history have a witness, however many the others are.
func TestLocalityOfAGreatHistory(t *testing.T) {
	t.Parallel()
	met := 0
	for seed := range uint64(300) {
		l := goodHistory(seeded(140000+seed), 18, slotOp)
		for _, slot := range []int{0, 5, 1023} {
			if of, e := linear.Slot(l, slot); e != api.OK || len(of) <= api.MaxCalls && !hasWitness(t, of) {
				t.Fatal(seed, slot, of, e)
			} else if len(of) > 4 && len(of) <= api.MaxCalls {
				met++
			}
		}
	}
	if met < 200 {
		t.Error("too few:", met)
	}
}

// oneBehindTheOther: each call but the last is answered and precedes the next.
func oneBehindTheOther(r *rand.Rand, calls int) []api.Call {
	var l []api.Call
	row := r.IntN(3)
	at := ledger.New()
	for i := range calls {
		c := numbered(1+i, called(r.IntN(3), anyOp(r), row, row+1+r.IntN(3), api.Result{}))
		c.Result = at.Do(c.Op)
		l, row = append(l, c), c.End+1+r.IntN(2)
	}
	for range pick(r, 0, 0, 1, 2) {
		spoil(r, l)
	}
	if r.IntN(3) == 0 {
		l[calls-1] = unanswered(l[calls-1])
	}
	return l
}

// firstWrong: the first answered call that the ledger answers otherwise, doing all in their order; -1: none.
func firstWrong(l []api.Call) int {
	var ops []api.Op
	for _, c := range l {
		ops = append(ops, c.Op)
	}
	_, results := ledger.Replay(ops)
	return slices.IndexFunc(l, func(c api.Call) bool {
		place := slices.Index(l, c)
		return c.End >= 0 && results[place] != c.Result
	})
}

// P18.14: one behind the other.
func TestOneBehindTheOther(t *testing.T) {
	t.Parallel()
	met := make(map[bool]int)
	for seed := range uint64(3000) {
		r := seeded(150000 + seed)
		l := oneBehindTheOther(r, 1+r.IntN(8))
		var order []int
		for place := range l {
			if place == 0 || !linear.Precedes(l[place], l[place-1]) && linear.Precedes(l[place-1], l[place]) {
				order = append(order, place)
			}
		}
		if len(order) != len(l) {
			t.Fatal("the test's own history is not such a one:", l)
		}
		wrong := firstWrong(l)
		met[wrong < 0]++
		expectHolds(t, l, order, wrong)
		if wrong >= 0 {
			expectNone(t, l, l[wrong].End)
			continue
		}
		if l[len(l)-1].End < 0 {
			order = order[:len(order)-1]
		}
		expectSearch(t, l, order...)
	}
	expectEnough(t, met, map[bool]int{true: 1000, false: 500})
}

// P18.14: all at one time, and none answered.
func TestNoneAnswered(t *testing.T) {
	for seed := range uint64(500) {
		r := seeded(160000 + seed)
		l := someHistory(r, r.IntN(9), anyOp)
		for i := range l {
			l[i] = unanswered(l[i])
		}
		for _, a := range l {
			for _, b := range l {
				if linear.Precedes(a, b) {
					t.Fatal(a, b)
				}
			}
		}
		expectSearch(t, l)
		expectHolds(t, l, nil, -1)
		expectHolds(t, l, r.Perm(len(l)), -1)
	}
}
