package ledger_test

import (
	"math"
	"math/rand/v2"
	"slices"
	"strings"
	"testing"

	"amnesia/api"
	"amnesia/ledger"
)

func write(slot int, value string) api.Op {
	return api.Op{Kind: api.OpWrite, Slot: slot, Value: value}
}

func add(value string) api.Op { return api.Op{Kind: api.OpAppend, Value: value} }

func read(slot int) api.Op { return api.Op{Kind: api.OpRead, Slot: slot} }

func count() api.Op { return api.Op{Kind: api.OpCount} }

func op(kind, slot int, value string) api.Op {
	return api.Op{Kind: kind, Slot: slot, Value: value}
}

func res(code, slot int, value string) api.Result {
	return api.Result{Code: code, Slot: slot, Value: value}
}

func cell(slot int, value string) api.Cell { return api.Cell{Slot: slot, Value: value} }

// A text of so many bytes.
func long(bytes int) string { return strings.Repeat("v", bytes) }

// Slots that there aren't; some of them are one that there is, modulo a power of two.
var noSlots = []int{math.MinInt, math.MinInt + 7, -1 << 32, -1024, -2, -1, 1024, 1025, 2048, 1 << 16, 1 << 32, 1<<32 + 7, math.MaxInt}

// Kinds of operations that there aren't.
var noKinds = []int{math.MinInt, -1, 0, 5, 6, 1<<8 + 1, 1<<32 + 1, math.MaxInt}

// Values of all kinds: empty, of bytes that are no text, as long as may be.
func someValues() []string {
	return []string{"", "a", "b", "\x00", "\xff\xfe", "é", long(63), long(64)}
}

// An operation of few slots, so that they are met again; now and then one that Check refuses.
func someOp(r *rand.Rand) api.Op {
	value := someValues()[r.IntN(len(someValues()))]
	slots := []int{0, 1, 2, 3, 7, 8, 500, 1020, 1021}
	slot := slots[r.IntN(len(slots))]
	switch r.IntN(12) {
	case 0, 1, 2, 3:
		return write(slot, value)
	case 4, 5:
		return add(value)
	case 6, 7:
		return read(slot)
	case 8:
		return count()
	case 9:
		return someWrongOp(r)
	case 10:
		return write(r.IntN(api.MaxSlots), value)
	}
	return read(r.IntN(api.MaxSlots))
}

func someWrongOp(r *rand.Rand) api.Op {
	wrong := []api.Op{
		op(0, 0, "w"), op(5, 1, "w"), op(-1, 2, ""), write(-1, "w"), write(1024, "w"), write(9, long(65)),
		op(api.OpAppend, 9, "w"), add(long(65)), read(-1), read(1024), op(api.OpRead, 9, "w"),
		op(api.OpCount, 1, ""), op(api.OpCount, 0, "w"),
	}
	return wrong[r.IntN(len(wrong))]
}

func someOps(r *rand.Rand, n int) []api.Op {
	var ops []api.Op
	for range n {
		ops = append(ops, someOp(r))
	}
	return ops
}

// board is the chapter's table in another form: a place for each slot.
type board struct {
	taken [1024]bool
	value [1024]string
}

// do is row by row the table of P4.2.
func (b *board) do(op api.Op) api.Result {
	slotIs, n, greatest := op.Slot >= 0 && op.Slot <= 1023, 0, -1
	for slot, taken := range b.taken {
		if taken {
			n, greatest = n+1, slot
		}
	}
	if op.Kind == 1 && slotIs && len(op.Value) <= 64 && !b.taken[op.Slot] {
		b.taken[op.Slot], b.value[op.Slot] = true, op.Value
		return res(1, op.Slot, op.Value)
	}
	if op.Kind == 1 && slotIs && len(op.Value) <= 64 {
		return res(2, op.Slot, b.value[op.Slot])
	}
	if op.Kind == 2 && op.Slot == 0 && len(op.Value) <= 64 && greatest < 1023 {
		b.taken[greatest+1], b.value[greatest+1] = true, op.Value
		return res(1, greatest+1, op.Value)
	}
	if op.Kind == 2 && op.Slot == 0 && len(op.Value) <= 64 {
		return res(3, 0, "")
	}
	if op.Kind == 3 && slotIs && op.Value == "" && b.taken[op.Slot] {
		return res(4, op.Slot, b.value[op.Slot])
	}
	if op.Kind == 3 && slotIs && op.Value == "" {
		return res(5, op.Slot, "")
	}
	if op.Kind == 4 && op.Slot == 0 && op.Value == "" {
		return res(6, n, "")
	}
	return res(0, 0, "")
}

func (b *board) cells() []api.Cell {
	var cells []api.Cell
	for slot, taken := range b.taken {
		if taken {
			cells = append(cells, cell(slot, b.value[slot]))
		}
	}
	return cells
}

// Does l have just these cells, whichever way it is asked?
func expectCells(t *testing.T, l *ledger.Ledger, want []api.Cell) {
	t.Helper()
	if got := l.Cells(); !slices.Equal(got, want) {
		t.Fatalf("cells %v, want %v", got, want)
	}
	if got := l.Len(); got != len(want) {
		t.Fatalf("Len %d, want %d", got, len(want))
	}
	next := 0
	for slot := range api.MaxSlots {
		taken := next < len(want) && want[next].Slot == slot
		wantValue := ""
		if taken {
			wantValue = want[next].Value
			next++
		}
		if value, ok := l.Get(slot); value != wantValue || ok != taken {
			t.Fatalf("Get(%d): %q, %v, want %q, %v", slot, value, ok, wantValue, taken)
		}
	}
}

func mustFrom(t *testing.T, cells ...api.Cell) *ledger.Ledger {
	t.Helper()
	l, e := ledger.From(cells)
	if e != api.OK || l == nil {
		t.Fatalf("From(%v): %v, %d", cells, l, e)
	}
	return l
}

// All slots taken, each by a value of its own.
func fullCells() []api.Cell {
	var cells []api.Cell
	for slot := range api.MaxSlots {
		cells = append(cells, cell(slot, strings.Repeat(string(rune('a'+slot%26)), slot%65)))
	}
	return cells
}
