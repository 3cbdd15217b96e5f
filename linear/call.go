package linear

import (
	"amnesia/api"
	"amnesia/ledger"
)

// request is what no two calls of a history share.
type request struct {
	client int
	number int
}

func requestOf(e api.Entry) request { return request{e.Client, e.Number} }

func entryOf(c api.Call) api.Entry {
	return api.Entry{Client: c.Client, Number: c.Number, Op: c.Op}
}

func isAnswered(c api.Call) bool { return c.End >= 0 }

// mayBe asks of a call what can be asked of it alone.
func mayBe(c api.Call) bool {
	waits := c.End == -1 && c.Result == api.Result{}
	return mayBeAsked(entryOf(c)) && c.Begin >= 0 && (waits || c.End > c.Begin)
}

func mayBeAsked(e api.Entry) bool {
	return e.Client >= 0 && e.Client < api.MaxClients && e.Number >= 1 && ledger.Check(e.Op) == api.OK
}

// upTo: the history as it was known up to a row and with it. (Not ahead of the row behind it: behind the greatest number there is none.)
func upTo(l []api.Call, row int) []api.Call {
	var known []api.Call
	for _, c := range l {
		if c.Begin > row {
			continue
		}
		if c.End > row {
			c.End, c.Result = -1, api.Result{}
		}
		known = append(known, c)
	}
	return known
}

// notes is what rows have told of calls so far.
type notes struct {
	calls  []api.Call
	places map[request]int // of each call
}

func (n *notes) asked(row int, e api.Entry) api.Errno {
	if !mayBeAsked(e) {
		return api.ErrCalls
	}
	r := requestOf(e)
	if _, twice := n.places[r]; twice {
		return api.ErrRow
	}
	n.places[r] = len(n.calls)
	n.calls = append(n.calls, api.Call{Client: e.Client, Number: e.Number, Op: e.Op, Begin: row, End: -1})
	return api.OK
}

func (n *notes) replied(row int, e api.Entry, result api.Result) api.Errno {
	place, is := n.places[requestOf(e)]
	if !is || isAnswered(n.calls[place]) {
		return api.ErrRow
	}
	n.calls[place].End, n.calls[place].Result = row, result
	return api.OK
}
