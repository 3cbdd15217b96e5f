package linear_test

import (
	"math"
	"slices"
	"testing"

	"amnesia/api"
	"amnesia/linear"
)

// P18.1: Check, and that all others that take a history ask it first.

// expectMay: a history may be, and no call says otherwise.
func expectMay(t *testing.T, l []api.Call) {
	t.Helper()
	if e := linear.Check(l); e != api.OK {
		t.Fatalf("%d: %+v", e, l)
	}
	_, holds := linear.Holds(l, nil)
	_, _, search := linear.Search(l)
	_, cut := linear.Cut(l, 0)
	_, worst := linear.Worst(l)
	_, order := linear.Order(l, nil)
	_, slot := linear.Slot(l, 0)
	if slices.Contains([]api.Errno{holds, search, cut, worst, order, slot}, api.ErrCalls) {
		t.Fatal(holds, search, cut, worst, order, slot)
	}
}

// expectMayNot: every call answers ErrCalls and nothing else, whatever stands beside the history.
func expectMayNot(t *testing.T, l []api.Call) {
	t.Helper()
	if e := linear.Check(l); e != api.ErrCalls {
		t.Fatalf("%d: %+v", e, l)
	}
	for _, order := range [][]int{nil, {0}, {-1}, {0, 0}, {len(l)}} {
		if at, e := linear.Holds(l, order); e != api.ErrCalls || at != 0 {
			t.Fatalf("Holds: %d, %d: %+v", at, e, l)
		}
	}
	if order, is, e := linear.Search(l); e != api.ErrCalls || is || len(order) != 0 {
		t.Fatalf("Search: %v, %v, %d: %+v", order, is, e, l)
	}
	for _, row := range []int{math.MinInt, -1, 0, math.MaxInt} {
		if cut, e := linear.Cut(l, row); e != api.ErrCalls || len(cut) != 0 {
			t.Fatalf("Cut: %v, %d: %+v", cut, e, l)
		}
	}
	if row, e := linear.Worst(l); e != api.ErrCalls || row != 0 {
		t.Fatalf("Worst: %d, %d: %+v", row, e, l)
	}
	var seq []api.Entry
	for _, c := range l {
		seq = append(seq, entryOf(c))
	}
	for _, s := range [][]api.Entry{nil, seq, append(seq, seq...)} {
		if order, e := linear.Order(l, s); e != api.ErrCalls || len(order) != 0 {
			t.Fatalf("Order: %v, %d: %+v", order, e, l)
		}
	}
	for _, slot := range []int{math.MinInt, -1, 0, 1023, 1024} {
		if of, e := linear.Slot(l, slot); e != api.ErrCalls || len(of) != 0 {
			t.Fatalf("Slot: %v, %d: %+v", of, e, l)
		}
	}
}

// everywhere: a call alone, and at each end and in the middle of others, so many that a search takes them and so many that it does not.
func everywhere(c api.Call) [][]api.Call {
	var all [][]api.Call
	for _, others := range []int{0, 2, 8} {
		l := reads(others)
		for i := range l {
			l[i].Client, l[i].Number = 3, 100+i
		}
		for _, at := range []int{0, others / 2, others} {
			all = append(all, slices.Insert(slices.Clone(l), at, c))
		}
	}
	return all
}

func expectCall(t *testing.T, may bool, c api.Call) {
	t.Helper()
	for _, l := range everywhere(c) {
		if may {
			expectMay(t, l)
		} else {
			expectMayNot(t, l)
		}
	}
}

func TestNoCalls(t *testing.T) {
	expectMay(t, nil)
	expectMay(t, []api.Call{})
	expectSearch(t, nil)
	expectSearch(t, []api.Call{})
	expectHolds(t, nil, nil, -1)
	expectHolds(t, []api.Call{}, []int{}, -1)
	expectNoOrder(t, nil, 0)
	expectCut(t, nil, 0)
	expectCut(t, []api.Call{}, math.MaxInt)
	expectOrder(t, nil, nil)
	expectOrder(t, []api.Call{}, []api.Entry{entry(0, 1, count)})
	expectSlot(t, nil, 0)
	expectSlot(t, []api.Call{}, 1023)
}

func TestClientsAndNumbers(t *testing.T) {
	for _, answered := range []bool{false, true} {
		c := called(0, read(7), 5, 6, none(7))
		if !answered {
			c = unanswered(c)
		}
		for _, client := range []int{math.MinInt, -1, 0, 1, api.MaxClients - 1, api.MaxClients, 1 << 32, math.MaxInt} {
			c.Client = client
			expectCall(t, client >= 0 && client < 16, c)
		}
		c.Client = 0
		for _, number := range []int{math.MinInt, -1, 0, 1, 2, api.MaxNumber - 1, api.MaxNumber} {
			c.Number = number
			expectCall(t, number >= 1, c)
		}
	}
}

func TestOperations(t *testing.T) {
	for _, op := range rightOps() {
		expectCall(t, true, waits(0, op, 5))
		expectCall(t, true, called(0, op, 5, 6, none(7))) // a wrong answer is no fault here
	}
	for _, op := range wrongOps() {
		expectCall(t, false, waits(0, op, 5))
		expectCall(t, false, called(0, op, 5, 6, none(7)))
		expectCall(t, false, called(0, op, 5, 6, api.Result{})) // what the ledger would answer it
	}
}

func TestBeginAndEnd(t *testing.T) {
	for _, begin := range []int{0, 1, 5, math.MaxInt - 1} {
		for _, end := range []int{begin + 1, math.MaxInt} {
			expectCall(t, true, called(0, read(7), begin, end, none(7)))
			expectCall(t, true, called(0, read(7), begin, end, api.Result{}))
		}
		expectCall(t, false, called(0, read(7), begin, begin, none(7)))
		for _, end := range []int{begin - 1, begin / 2, 0, -2, math.MinInt} {
			expectCall(t, false, called(0, read(7), begin, end, none(7)))
			if end != -1 {
				expectCall(t, false, called(0, read(7), begin, end, api.Result{}))
			}
		}
		expectCall(t, true, waits(0, read(7), begin))
	}
	expectCall(t, true, waits(0, read(7), math.MaxInt))
	expectCall(t, false, called(0, read(7), math.MaxInt, math.MaxInt, none(7)))
	expectCall(t, false, called(0, read(7), math.MaxInt, math.MinInt, none(7)))
	for _, begin := range []int{math.MinInt, -5, -2, -1} {
		expectCall(t, false, waits(0, read(7), begin))
		expectCall(t, false, called(0, read(7), begin, begin+1, none(7)))
		expectCall(t, false, called(0, read(7), begin, 0, none(7)))
		expectCall(t, false, called(0, read(7), begin, 6, none(7)))
	}
}

func TestAResultWithoutAnEnd(t *testing.T) {
	for _, result := range []api.Result{res(1, 0, ""), res(-1, 0, ""), res(0, 1, ""), res(0, -1, ""), res(0, 0, "a"), res(0, 0, "\x00"), none(7)} {
		c := waits(0, read(7), 5)
		c.Result = result
		expectCall(t, false, c)
		c.End = 6
		expectCall(t, true, c)
	}
}

func TestTheSameRequestTwice(t *testing.T) {
	first := called(2, write(7, "a"), 0, 1, written(7, "a"))
	for _, second := range []api.Call{first, unanswered(first), called(2, read(7), 8, 9, none(7)), called(2, count, 8, 8, none(7)), called(2, write(-1, ""), 8, 9, none(7))} {
		expectMayNot(t, calls(first, second))
		expectMayNot(t, calls(second, first))
		for _, others := range []int{1, 5, 40} {
			between := reads(others)
			for i := range between {
				between[i].Client, between[i].Number = 3, 1+i
			}
			expectMayNot(t, slices.Concat(calls(first), between, calls(second)))
			expectMayNot(t, slices.Concat(calls(second), between, calls(first)))
			expectMayNot(t, slices.Concat(calls(first, second), between))
			expectMayNot(t, slices.Concat(between, calls(first, second)))
		}
	}
	expectMay(t, calls(first, numbered(2, first)))
	other := first
	other.Client = 1
	expectMay(t, calls(first, other))
	// One's client is the other's number.
	a, b := numbered(2, waits(1, count, 0)), numbered(1, waits(2, count, 0))
	expectMay(t, calls(a, b))
	// Numbers that are the same but for what lies far up.
	for _, far := range []int{1 << 8, 1 << 16, 1 << 31, 1 << 32, 1 << 53, 1 << 62} {
		expectMay(t, calls(first, numbered(1+far, first)))
		expectMayNot(t, calls(numbered(1+far, first), first, numbered(1+far, first)))
	}
	for n := 1; n <= 300; n++ {
		expectMay(t, reads(n))
	}
}

// Any calls, each field right or wrong.
func TestAnyCalls(t *testing.T) {
	met := make(map[bool]int)
	for seed := range uint64(4000) {
		r := seeded(seed)
		l := someHistory(r, 1+r.IntN(5), anyOp)
		for range r.IntN(3) {
			c := &l[r.IntN(len(l))]
			switch r.IntN(6) {
			case 0:
				c.Client = pick(r, -1, 0, 1, 2, 15, 16)
			case 1:
				c.Number = pick(r, 0, 1, 2, api.MaxNumber)
			case 2:
				c.Op = pick(r, append(wrongOps(), rightOps()...)...)
			case 3:
				c.Begin = pick(r, -1, 0, c.End-1, c.End, c.End+1)
			case 4:
				c.End = pick(r, -2, -1, 0, c.Begin-1, c.Begin, c.Begin+1)
			default:
				c.Result = pick(r, api.Result{}, none(1), res(0, 0, "x"))
			}
		}
		may := modelMayBe(l)
		met[may]++
		if may {
			expectMay(t, l)
		} else {
			expectMayNot(t, l)
		}
	}
	expectEnough(t, met, map[bool]int{true: 500, false: 500})
}
