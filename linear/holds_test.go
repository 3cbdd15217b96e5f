package linear_test

import (
	"math"
	"math/rand/v2"
	"slices"
	"testing"

	"amnesia/api"
)

// P18.4 and P18.5: what a witness is, and Holds.

func TestNumbersThatAreNoPlace(t *testing.T) {
	for _, n := range []int{1, 2, 8, 20} {
		l := reads(n)
		all := make([]int, n)
		for i := range all {
			all[i] = i
		}
		expectHolds(t, l, all, -1)
		for _, place := range []int{math.MinInt, -1, n, n + 1, 1 << 32, math.MaxInt} {
			expectNoOrder(t, l, place)
			expectNoOrder(t, l, append(slices.Clone(all), place)...)
			expectNoOrder(t, l, append([]int{place}, all...)...)
			expectNoOrder(t, l, append([]int{n - 1, place}, all...)...) // it breaks ahead of that: an order it is not all the same
		}
		for place := range n {
			expectNoOrder(t, l, place, place)
			expectNoOrder(t, l, append(slices.Clone(all), place)...)
			expectNoOrder(t, l, append([]int{place}, all...)...)
		}
	}
}

func TestACallThatIsMissing(t *testing.T) {
	l := calls(called(0, write(7, "a"), 0, 9, written(7, "a")), called(1, read(7), 1, 8, found(7, "a")), waits(2, count, 2), called(3, read(8), 3, 7, none(8)))
	for order, want := range map[[3]int]int{{-1, -1, -1}: 0, {0, -1, -1}: 1, {0, 1, -1}: 2, {0, 1, 2}: 3, {0, 2, -1}: 2, {2, -1, -1}: 1, {0, 1, 3}: -1, {3, 0, 1}: -1, {0, 3, 1}: -1, {1, 0, 3}: 0, {3, 1, 0}: 1} {
		expectHolds(t, l, slices.DeleteFunc(order[:], func(place int) bool { return place < 0 }), want)
	}
	expectHolds(t, l, []int{0, 1, 3, 2}, -1) // what is not answered stands in it
	expectHolds(t, l, []int{2, 0, 1, 3}, -1)
	expectHolds(t, calls(waits(0, count, 0), waits(1, add("x"), 1)), nil, -1)
	expectHolds(t, calls(waits(0, count, 0), waits(1, add("x"), 1)), []int{1}, -1)
	expectHolds(t, calls(waits(0, count, 0), called(1, count, 1, math.MaxInt, counted(0))), nil, 0)
	expectHolds(t, calls(waits(0, count, 0), called(1, count, 1, math.MaxInt, counted(0))), []int{0}, 1)
}

// One that precedes stands behind, or nowhere: the later call breaks it, be it answered or not.
func TestACallAheadOfOneThatPrecedesIt(t *testing.T) {
	l := calls(called(0, read(1), 0, 4, none(1)), called(1, read(2), 5, 6, none(2)), called(2, read(3), 4, 9, none(3)), waits(3, read(4), 7))
	expectHolds(t, l, []int{0, 1, 2, 3}, -1)
	expectHolds(t, l, []int{2, 0, 1, 3}, -1) // answered in row 4, asked in row 4: at one time
	expectHolds(t, l, []int{0, 2, 1}, -1)
	expectHolds(t, l, []int{1, 0, 2, 3}, 0)
	expectHolds(t, l, []int{2, 1, 0, 3}, 1)
	expectHolds(t, l, []int{0, 3, 1, 2}, 1)
	expectHolds(t, l, []int{3}, 0)
	expectHolds(t, l, []int{2, 1}, 1)
	expectHolds(t, l, []int{0, 2, 3}, 2)
	expectHolds(t, l, []int{0, 2}, 2) // missing, and it precedes none of these
	expectHolds(t, calls(waits(0, read(1), 0), called(1, read(1), 9, 10, none(1))), []int{1, 0}, -1)
	end := math.MaxInt
	expectHolds(t, calls(called(0, read(1), 0, end, none(1)), waits(1, read(1), end)), []int{1, 0}, -1)
	expectHolds(t, calls(called(0, read(1), 0, end-1, none(1)), waits(1, read(1), end)), []int{1, 0}, 0)
}

// Each kind of operation, done in its order: each one's answer is asked in all its fields, and the first that is wrong breaks it.
func TestEachOperation(t *testing.T) {
	l := calls(
		called(0, read(3), 0, 100, none(3)),
		called(1, count, 0, 100, counted(0)),
		called(2, add("x"), 0, 100, written(0, "x")),
		called(3, write(0, "y"), 0, 100, taken(0, "x")),
		called(4, write(3, ""), 0, 100, written(3, "")),
		called(5, read(3), 0, 100, found(3, "")),
		called(6, write(3, "z"), 0, 100, taken(3, "")),
		called(7, add("w"), 0, 100, written(4, "w")),
		called(8, write(1023, "e"), 0, 100, written(1023, "e")),
		called(9, add("v"), 0, 100, full),
		called(10, add("u"), 0, 100, full),
		called(11, count, 0, 100, counted(4)),
		called(12, read(1023), 0, 100, found(1023, "e")),
		called(13, write(2, "b"), 0, 100, written(2, "b")),
		called(14, read(2), 0, 100, found(2, "b")),
	)
	var order []int
	for place := range l {
		order = append(order, place)
	}
	expectHolds(t, l, order, -1)
	for place := range l {
		for _, other := range []api.Result{{}, res(l[place].Result.Code+1, l[place].Result.Slot, l[place].Result.Value), res(l[place].Result.Code, l[place].Result.Slot+1, l[place].Result.Value),
			res(l[place].Result.Code, l[place].Result.Slot, l[place].Result.Value+"\x00"), res(api.ResRefused, 0, "")} {
			wrong := slices.Clone(l)
			wrong[place].Result = other
			expectHolds(t, wrong, order, place)
			for _, later := range []int{place + 1, len(l) - 1} {
				if later < len(l) {
					both := slices.Clone(wrong)
					both[later].Result = other
					expectHolds(t, both, order, place)
				}
			}
			wrong[place] = unanswered(wrong[place])
			expectHolds(t, wrong, order, -1)
		}
	}
}

// A call that is not answered is done where it stands.
func TestUnansweredCallsAreDone(t *testing.T) {
	l := calls(waits(0, write(7, "a"), 0), waits(1, write(7, "b"), 0), called(2, read(7), 0, 9, found(7, "b")), waits(3, add("x"), 0), called(4, count, 0, 9, counted(2)))
	expectHolds(t, l, []int{1, 2, 3, 4}, -1)
	expectHolds(t, l, []int{1, 0, 2, 3, 4}, -1)
	expectHolds(t, l, []int{0, 1, 2, 3, 4}, 2)
	expectHolds(t, l, []int{1, 2, 4}, 2)
	expectHolds(t, l, []int{2, 1, 3, 4}, 0)
	expectHolds(t, l, []int{3, 1, 4, 2, 0}, -1)
}

// Of several faults the first place.
func TestTheFirstPlaceThatBreaks(t *testing.T) {
	l := calls(called(0, write(7, "a"), 0, 1, written(7, "a")), called(1, read(7), 2, 3, none(7)), called(2, count, 4, 5, counted(9)), called(3, read(8), 6, 7, none(8)))
	expectHolds(t, l, []int{0, 1, 2, 3}, 1)
	expectHolds(t, l, []int{0, 2, 1, 3}, 1)
	expectHolds(t, l, []int{3, 0, 1, 2}, 0)
	expectHolds(t, l, []int{0, 1}, 1)
	expectHolds(t, l, []int{0}, 1)
	expectHolds(t, l, []int{0, 3}, 1)
	l[1].Result = found(7, "a")
	expectHolds(t, l, []int{0, 1, 2, 3}, 2)
	expectHolds(t, l, []int{0, 1, 3, 2}, 2)
	expectHolds(t, l, []int{0, 1}, 2)
}

// someOrder: some of the places, now and then such as are no order.
func someOrder(r *rand.Rand, calls int) []int {
	order := r.Perm(calls)
	if r.IntN(3) == 0 {
		slices.Sort(order)
	}
	if r.IntN(2) == 0 {
		order = order[:r.IntN(calls+1)]
	}
	if r.IntN(10) == 0 {
		order = slices.Insert(order, r.IntN(len(order)+1), pick(r, -1, calls, r.IntN(calls)))
	}
	return order
}

func TestAnyOrders(t *testing.T) {
	t.Parallel()
	met := make(map[string]int)
	for seed := range uint64(6000) {
		r := seeded(20000 + seed)
		n := 1 + r.IntN(12)
		l := someHistory(r, n, anyOp)
		order := someOrder(r, n)
		if is, found := modelSearchOf(l); found && r.IntN(3) == 0 {
			order = is
		}
		want, e := modelHolds(l, order)
		switch {
		case e != api.OK:
			met["no order"]++
			expectNoOrder(t, l, order...)
			continue
		case want == -1:
			met["witness"]++
		case want == len(order):
			met["missing"]++
		default:
			met["broken"]++
		}
		expectHolds(t, l, order, want)
	}
	expectEnough(t, met, map[string]int{"no order": 200, "witness": 200, "missing": 50, "broken": 1000})
}

// modelSearchOf: as modelSearch, of few calls alone.
func modelSearchOf(l []api.Call) ([]int, bool) {
	if len(l) > 5 {
		return nil, false
	}
	return modelSearch(l)
}

// A history may be as long as it likes.
func TestAGreatHistory(t *testing.T) {
	const many = 100000
	l := reads(many)
	order := make([]int, many)
	for i := range order {
		order[i] = i
	}
	expectHolds(t, l, order, -1)
	expectHolds(t, l, order[:many-1], many-1)
	expectHolds(t, l, order[1:], 0)
	order[many-2], order[many-1] = many-1, many-2
	expectHolds(t, l, order, many-2)
	order[many-2] = 0
	expectNoOrder(t, l, order...)
}
