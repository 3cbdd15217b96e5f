package audit

import (
	"amnesia/api"
	"amnesia/ledger"
	"amnesia/tree"
)

// Check: does a receipt hold by itself? ErrClaim: its claim may not be; ErrReceipt: its path does not lead from its entry to the claim's head. The result is under no head, and is not asked.
func Check(r api.Receipt) api.Errno {
	switch {
	case !claimMayBe(r.Claim):
		return api.ErrClaim
	case tree.Included(r.Claim.Head, r.Claim.Size, r.Place, r.Entry, r.Path) != api.OK:
		return api.ErrReceipt
	}
	return api.OK
}

// Confirm: does a receipt hold against a log? Check's errors; ErrReceipt: the log has not what the receipt tells.
func Confirm(r api.Receipt, log []api.Entry) api.Errno {
	if e := Check(r); e != api.OK {
		return e
	}
	if !bears(log, r) {
		return api.ErrReceipt
	}
	return api.OK
}

// bears: has the log all that a receipt tells, which holds by itself? So its place is one of the claim's size.
func bears(log []api.Entry, r api.Receipt) bool {
	size := r.Claim.Size
	return len(log) >= size && tree.Head(log[:size]) == r.Claim.Head &&
		log[r.Place-1] == r.Entry && lastResult(log[:r.Place]) == r.Result
}

// lastResult: what the ledger answers the last of these entries, of which there is one or more.
func lastResult(log []api.Entry) api.Result {
	ops := make([]api.Op, len(log))
	for i, entry := range log {
		ops[i] = entry.Op
	}
	_, results := ledger.Replay(ops)
	return results[len(results)-1]
}
