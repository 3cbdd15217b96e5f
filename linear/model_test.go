package linear_test

import (
	"iter"
	"slices"

	"amnesia/api"
	"amnesia/ledger"
)

// The chapter's words, each as it stands, however long it takes.

func modelMayBe(l []api.Call) bool {
	for i, c := range l {
		if c.Client < 0 || c.Client >= 16 || c.Number < 1 || ledger.Check(c.Op) != api.OK || c.Begin < 0 {
			return false
		}
		if !(c.End == -1 && c.Result == api.Result{}) && !(c.End > c.Begin) {
			return false
		}
		for _, other := range l[:i] {
			if other.Client == c.Client && other.Number == c.Number {
				return false
			}
		}
	}
	return true
}

func modelPrecedes(a, b api.Call) bool {
	if a.End < 0 {
		return false
	}
	return a.End < b.Begin
}

// answerBehind: what a new ledger answers the last of these calls.
func answerBehind(l []api.Call, order []int) api.Result {
	var ops []api.Op
	for _, place := range order {
		ops = append(ops, l[place].Op)
	}
	_, results := ledger.Replay(ops)
	return results[len(results)-1]
}

// modelBreaks: does the call at that place of an order break it?
func modelBreaks(l []api.Call, order []int, at int) bool {
	c := l[order[at]]
	for place, a := range l {
		if modelPrecedes(a, c) && !slices.Contains(order[:at], place) {
			return true
		}
	}
	return c.End >= 0 && answerBehind(l, order[:at+1]) != c.Result
}

func modelHolds(l []api.Call, order []int) (int, api.Errno) {
	for i, place := range order {
		if place < 0 || place >= len(l) || slices.Contains(order[:i], place) {
			return 0, api.ErrWitness
		}
	}
	for at := range order {
		if modelBreaks(l, order, at) {
			return at, api.OK
		}
	}
	for place, c := range l {
		if c.End >= 0 && !slices.Contains(order, place) {
			return len(order), api.OK
		}
	}
	return -1, api.OK
}

// allOrders: every order of so many calls, the lesser first.
func allOrders(calls int) iter.Seq[[]int] {
	return func(yield func([]int) bool) {
		var from func(order []int) bool
		from = func(order []int) bool {
			if !yield(order) {
				return false
			}
			for place := range calls {
				if !slices.Contains(order, place) && !from(append(slices.Clone(order), place)) {
					return false
				}
			}
			return true
		}
		from(nil)
	}
}

func modelSearch(l []api.Call) ([]int, bool) {
	for order := range allOrders(len(l)) {
		if at, e := modelHolds(l, order); at == -1 && e == api.OK {
			return order, true
		}
	}
	return nil, false
}

// modelKnown: the history as it was known up to a row and with it.
func modelKnown(l []api.Call, row int) []api.Call {
	var known []api.Call
	for _, c := range l {
		switch {
		case c.Begin <= row && c.End <= row:
			known = append(known, c)
		case c.Begin <= row:
			known = append(known, unanswered(c))
		}
	}
	return known
}

// modelWorst tries every row, not those alone at which something is answered.
func modelWorst(l []api.Call) int {
	if _, is := modelSearch(l); is {
		return -1
	}
	for row := 0; ; row++ {
		if _, is := modelSearch(modelKnown(l, row)); !is {
			return row
		}
	}
}

func modelCut(l []api.Call, row int) []api.Call {
	var cut []api.Call
	for _, c := range l {
		if c.Begin >= row {
			continue
		}
		if c.End >= row {
			c = unanswered(c)
		}
		cut = append(cut, c)
	}
	return cut
}

func modelOrder(l []api.Call, seq []api.Entry) ([]int, api.Errno) {
	for _, c := range l {
		times := 0
		for _, e := range seq {
			if e == entryOf(c) {
				times++
			}
		}
		if times > 1 || times == 0 && c.End >= 0 {
			return nil, api.ErrWitness
		}
	}
	var order []int
	for _, e := range seq {
		if place := slices.IndexFunc(l, func(c api.Call) bool { return entryOf(c) == e }); place >= 0 {
			order = append(order, place)
		}
	}
	return order, api.OK
}

func modelSlot(l []api.Call, slot int) []api.Call {
	var of []api.Call
	for _, c := range l {
		if c.Op.Slot == slot && (c.Op.Kind == api.OpWrite || c.Op.Kind == api.OpRead) {
			of = append(of, c)
		}
	}
	return of
}

// told: is there a row of that kind with this client and number?
func told(rows []api.Seen, k api.SeenKind, e api.Entry) bool {
	return slices.ContainsFunc(rows, func(row api.Seen) bool {
		return row.Kind == k && row.Entry.Client == e.Client && row.Entry.Number == e.Number
	})
}

func modelCalls(rows []api.Seen) ([]api.Call, api.Errno) {
	for i, row := range rows {
		ahead, e := rows[:i], row.Entry
		switch {
		case row.Kind == api.SeenAsked && !modelMayBe(calls(numbered(e.Number, waits(e.Client, e.Op, 0)))):
			return nil, api.ErrCalls
		case row.Kind == api.SeenAsked && told(ahead, api.SeenAsked, e):
			return nil, api.ErrRow
		case row.Kind == api.SeenReply && (!told(ahead, api.SeenAsked, e) || told(ahead, api.SeenReply, e)):
			return nil, api.ErrRow
		}
	}
	var l []api.Call
	for i, row := range rows {
		if row.Kind != api.SeenAsked {
			continue
		}
		c := api.Call{Client: row.Entry.Client, Number: row.Entry.Number, Op: row.Entry.Op, Begin: i, End: -1}
		for k, other := range rows {
			if other.Kind == api.SeenReply && other.Entry.Client == c.Client && other.Entry.Number == c.Number {
				c.End, c.Result = k, other.Result
			}
		}
		l = append(l, c)
	}
	return l, api.OK
}
