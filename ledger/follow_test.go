package ledger_test

import (
	"math/rand/v2"
	"slices"
	"testing"

	"amnesia/api"
	"amnesia/ledger"
)

// P4.8: the first write wins.

func TestFirstWriteWins(t *testing.T) {
	r := rand.New(rand.NewPCG(8, 4))
	for range 200 {
		l := ledger.New()
		var first [api.MaxSlots]*string // of each slot the first value that was answered ResWritten
		for _, op := range someOps(r, 80) {
			got := l.Do(op)
			if got.Code == api.ResWritten {
				if first[got.Slot] != nil {
					t.Fatalf("Do(%v): slot %d is written twice", op, got.Slot)
				}
				if got.Value != op.Value {
					t.Fatalf("Do(%v): written %q", op, got.Value)
				}
				first[got.Slot] = &op.Value
			}
			expectFirst(t, l, &first)
		}
	}
}

func expectFirst(t *testing.T, l *ledger.Ledger, first *[api.MaxSlots]*string) {
	t.Helper()
	for slot, want := range first {
		value, taken := l.Get(slot)
		if taken != (want != nil) || taken && value != *want {
			t.Fatalf("slot %d: %q, %v", slot, value, taken)
		}
	}
}

// P4.9: one function.

// Ledgers that have come to the same cells by New and Do (in two orders), From and Clone.
func sameLedgers(t *testing.T, r *rand.Rand, cells []api.Cell) []*ledger.Ledger {
	t.Helper()
	rising, mixed := ledger.New(), ledger.New()
	for _, c := range cells {
		rising.Do(write(c.Slot, c.Value))
	}
	for _, i := range r.Perm(len(cells)) {
		mixed.Do(write(cells[i].Slot, cells[i].Value))
		mixed.Do(someWrongOp(r))
		mixed.Do(write(cells[i].Slot, "too late"))
	}
	return []*ledger.Ledger{rising, mixed, mustFrom(t, cells...), mixed.Clone()}
}

func TestSameCellsSameAnswers(t *testing.T) {
	r := rand.New(rand.NewPCG(9, 4))
	for range 100 {
		cells, _ := ledger.Replay(someOps(r, 20))
		same := sameLedgers(t, r, cells)
		for _, op := range someOps(r, 40) {
			want := same[0].Do(op)
			for i, l := range same[1:] {
				if got := l.Do(op); got != want {
					t.Fatalf("ledger %d, Do(%v): %v, want %v", i+1, op, got, want)
				}
			}
		}
		for _, l := range same[1:] {
			expectCells(t, l, same[0].Cells())
		}
	}
}

func TestReplayInTwoParts(t *testing.T) {
	r := rand.New(rand.NewPCG(9, 5))
	for range 200 {
		ops := someOps(r, 40)
		cut := r.IntN(len(ops) + 1)
		cells, results := ledger.Replay(ops)
		firstCells, firstResults := ledger.Replay(ops[:cut])
		l := mustFrom(t, firstCells...)
		parts := slices.Clone(firstResults)
		for _, op := range ops[cut:] {
			parts = append(parts, l.Do(op))
		}
		if !slices.Equal(parts, results) {
			t.Fatalf("cut at %d: results %v, want %v", cut, parts, results)
		}
		expectCells(t, l, cells)
	}
}

// P4.10: apart.

func TestUnlikeSlotsInEitherOrder(t *testing.T) {
	r := rand.New(rand.NewPCG(10, 4))
	slots := []int{0, 1, 7, 8, 1022, 1023}
	for range 100 {
		cells, _ := ledger.Replay(someOps(r, 6))
		for _, i := range slots {
			for _, k := range slots {
				if i == k {
					continue
				}
				for _, a := range []api.Op{write(i, "a"), write(i, ""), read(i)} {
					for _, b := range []api.Op{write(k, "b"), write(k, "a"), read(k)} {
						expectEitherOrder(t, cells, a, b)
					}
				}
			}
		}
	}
}

func expectEitherOrder(t *testing.T, cells []api.Cell, a, b api.Op) {
	t.Helper()
	one, other := mustFrom(t, cells...), mustFrom(t, cells...)
	a1, b1 := one.Do(a), one.Do(b)
	b2, a2 := other.Do(b), other.Do(a)
	if a1 != a2 || b1 != b2 || !slices.Equal(one.Cells(), other.Cells()) {
		t.Fatalf("%v and %v on %v: %v, %v and %v, %v; cells %v and %v", a, b, cells, a1, b1, a2, b2, one.Cells(), other.Cells())
	}
}

func TestReadsAndCountsMayBeLeftOut(t *testing.T) {
	r := rand.New(rand.NewPCG(10, 5))
	for range 200 {
		ops := someOps(r, 60)
		cells, results := ledger.Replay(ops)
		var fewOps []api.Op
		var want []api.Result
		for i, op := range ops {
			if (op.Kind == api.OpWrite || op.Kind == api.OpAppend) && ledger.Check(op) == api.OK {
				fewOps, want = append(fewOps, op), append(want, results[i])
			}
		}
		expectReplay(t, fewOps, cells, want)
	}
}

// P4.11: Len and Cells.

func TestLenAndCells(t *testing.T) {
	r := rand.New(rand.NewPCG(11, 4))
	for range 100 {
		l := ledger.New()
		written := 0
		for _, op := range someOps(r, 60) {
			if l.Do(op).Code == api.ResWritten {
				written++
			}
			if l.Len() != written {
				t.Fatalf("Len %d behind %d written", l.Len(), written)
			}
			if got := l.Would(count()); got != res(api.ResCount, written, "") {
				t.Fatalf("count: %v behind %d written", got, written)
			}
			cells := l.Cells()
			for i := 1; i < len(cells); i++ {
				if cells[i-1].Slot >= cells[i].Slot {
					t.Fatalf("cells do not rise: %v", cells)
				}
			}
			expectCells(t, mustFrom(t, cells...), cells)
		}
	}
}
