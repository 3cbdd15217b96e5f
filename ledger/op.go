package ledger

import (
	"iter"

	"amnesia/api"
)

// Check: may an operation be? ErrOp: its kind is none; ErrSlot: a slot that there isn't, or one where none is used; ErrValue: a value that is too long, or one where none is used.
func Check(op api.Op) api.Errno {
	switch op.Kind {
	case api.OpWrite:
		if !isSlot(op.Slot) {
			return api.ErrSlot
		}
		op.Slot = 0 // it is used, and right: what is left to look at is an append's
		fallthrough
	case api.OpAppend:
		return checkRest(op, api.MaxValue)
	case api.OpRead:
		if !isSlot(op.Slot) {
			return api.ErrSlot
		}
		op.Slot = 0 // likewise: what is left is a count's
		fallthrough
	case api.OpCount:
		return checkRest(op, 0)
	}
	return api.ErrOp
}

// checkRest asks of an operation that uses no slot, and of the value so many bytes.
func checkRest(op api.Op, room int) api.Errno {
	switch {
	case op.Slot != 0:
		return api.ErrSlot
	case len(op.Value) > room:
		return api.ErrValue
	}
	return api.OK
}

// Replay: what a new ledger has behind these operations: its cells; and their results, one for each.
func Replay(ops []api.Op) ([]api.Cell, []api.Result) {
	l := New()
	results := make([]api.Result, len(ops))
	for i, op := range ops {
		results[i] = l.Do(op)
	}
	return l.Cells(), results
}

// Each goes over cells in their order, as they are now: slot and value.
func Each(cells []api.Cell) iter.Seq2[int, string] {
	kept := make([]api.Cell, len(cells))
	copy(kept, cells)
	return func(yield func(int, string) bool) {
		if yield == nil {
			return
		}
		for _, c := range kept {
			if !yield(c.Slot, c.Value) {
				return
			}
		}
	}
}

func isSlot(slot int) bool { return slot >= 0 && slot < api.MaxSlots }
