package linear

import (
	"slices"

	"amnesia/api"
	"amnesia/ledger"
)

// Search: the least witness, and true; false, if there is none. ErrCalls; ErrMany: more than MaxCalls calls.
func Search(l []api.Call) ([]int, bool, api.Errno) {
	if e := checkFew(l); e != api.OK {
		return nil, false, e
	}
	order, is := least(l)
	return order, is, api.OK
}

// Worst: -1, if there is a witness; else the least row such that the history as it was known with it has none. ErrCalls; ErrMany: more than MaxCalls calls.
func Worst(l []api.Call) (int, api.Errno) {
	if e := checkFew(l); e != api.OK {
		return 0, e
	}
	// A call that is asked can be left out of a witness: it is answers alone that leave none.
	var ends []int
	for _, c := range l {
		if isAnswered(c) {
			ends = append(ends, c.End)
		}
	}
	slices.Sort(ends)
	for _, row := range ends {
		if _, is := least(upTo(l, row)); !is {
			return row, api.OK
		}
	}
	return -1, api.OK
}

func checkFew(l []api.Call) api.Errno {
	if e := Check(l); e != api.OK {
		return e
	}
	if len(l) > api.MaxCalls {
		return api.ErrMany
	}
	return api.OK
}

// point is where a search has come to: which calls are done, and what the ledger has behind them. How it came there has no part in how it can go on.
type point struct {
	done  [api.MaxCalls]bool // by place
	taken int
	cells [api.MaxCalls]api.Cell // so many as are taken
}

func pointOf(done [api.MaxCalls]bool, at *ledger.Ledger) point {
	p := point{done: done, taken: at.Len()}
	copy(p.cells[:], at.Cells())
	return p
}

// least: the least witness of at most MaxCalls calls; false: there is none. The places are tried rising, and an order that is a witness already is not gone on with: so the first that is found is the least.
func least(l []api.Call) ([]int, bool) {
	var order []int
	vain := make(map[point]struct{})
	var search func(done [api.MaxCalls]bool, at *ledger.Ledger) bool
	search = func(done [api.MaxCalls]bool, at *ledger.Ledger) bool {
		if !lacksAnswered(l, done[:]) {
			return true
		}
		here := pointOf(done, at)
		if _, is := vain[here]; is {
			return false
		}
	places:
		for place, c := range l {
			if done[place] || isAnswered(c) && at.Would(c.Op) != c.Result {
				continue
			}
			for other, a := range l {
				if !done[other] && Precedes(a, c) {
					continue places
				}
			}
			next, behind := done, at.Clone()
			next[place] = true
			behind.Do(c.Op)
			order = append(order, place)
			if search(next, behind) {
				return true
			}
			order = order[:len(order)-1]
		}
		vain[here] = struct{}{}
		return false
	}
	if !search([api.MaxCalls]bool{}, ledger.New()) {
		return nil, false
	}
	return order, true
}
