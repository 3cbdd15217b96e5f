package ledger_test

import (
	"math"
	"math/rand/v2"
	"slices"
	"testing"

	"amnesia/api"
	"amnesia/ledger"
)

// P4.2: New, Do and Would.

type step struct {
	op   api.Op
	want api.Result
}

// Each step by Would, twice, and then by Do.
func walk(t *testing.T, l *ledger.Ledger, steps ...step) {
	t.Helper()
	for i, s := range steps {
		for range 2 {
			if r := l.Would(s.op); r != s.want {
				t.Fatalf("step %d, Would(%v): %v, want %v", i, s.op, r, s.want)
			}
		}
		if r := l.Do(s.op); r != s.want {
			t.Fatalf("step %d, Do(%v): %v, want %v", i, s.op, r, s.want)
		}
	}
}

func TestNewIsEmpty(t *testing.T) {
	l := ledger.New()
	expectCells(t, l, nil)
	for slot := range api.MaxSlots {
		walk(t, l, step{read(slot), res(api.ResNone, slot, "")})
	}
	walk(t, l, step{count(), res(api.ResCount, 0, "")})
}

// Examples 1 and 2.
func TestDoExamples(t *testing.T) {
	l := ledger.New()
	walk(t, l,
		step{write(7, "a"), res(api.ResWritten, 7, "a")},
		step{write(7, "b"), res(api.ResTaken, 7, "a")},
		step{read(7), res(api.ResFound, 7, "a")},
		step{read(8), res(api.ResNone, 8, "")},
		step{count(), res(api.ResCount, 1, "")},
		step{add("x"), res(api.ResWritten, 8, "x")})
	expectCells(t, l, []api.Cell{cell(7, "a"), cell(8, "x")})
	walk(t, ledger.New(), step{add("x"), res(api.ResWritten, 0, "x")})
	walk(t, ledger.New(), step{write(1023, "e"), res(api.ResWritten, 1023, "e")}, step{add("x"), res(api.ResFull, 0, "")})
}

// Example 3.
func TestEmptyValueTakes(t *testing.T) {
	l := ledger.New()
	walk(t, l,
		step{write(0, ""), res(api.ResWritten, 0, "")},
		step{write(0, "z"), res(api.ResTaken, 0, "")},
		step{read(0), res(api.ResFound, 0, "")},
		step{count(), res(api.ResCount, 1, "")},
		step{add(""), res(api.ResWritten, 1, "")},
		step{write(1, "z"), res(api.ResTaken, 1, "")})
	expectCells(t, l, []api.Cell{cell(0, ""), cell(1, "")})
}

func TestDoAtTheEnds(t *testing.T) {
	l := ledger.New()
	walk(t, l,
		step{write(0, long(64)), res(api.ResWritten, 0, long(64))},
		step{write(1022, "\x00\xff"), res(api.ResWritten, 1022, "\x00\xff")},
		step{write(-1, "a"), res(0, 0, "")},
		step{write(1024, "a"), res(0, 0, "")},
		step{read(-1), res(0, 0, "")},
		step{read(1024), res(0, 0, "")},
		step{add(long(65)), res(0, 0, "")},
		step{add(long(64)), res(api.ResWritten, 1023, long(64))},
		step{add(""), res(api.ResFull, 0, "")},
		step{add(long(65)), res(0, 0, "")},
		step{write(1023, "a"), res(api.ResTaken, 1023, long(64))},
		step{write(5, "f"), res(api.ResWritten, 5, "f")},
		step{count(), res(api.ResCount, 4, "")})
	expectCells(t, l, []api.Cell{cell(0, long(64)), cell(5, "f"), cell(1022, "\x00\xff"), cell(1023, long(64))})
}

// An append goes behind the greatest slot, wherever there is room ahead of it, and whichever was taken last.
func TestAppendBehindTheGreatest(t *testing.T) {
	l := ledger.New()
	walk(t, l,
		step{write(10, "k"), res(api.ResWritten, 10, "k")},
		step{write(3, "d"), res(api.ResWritten, 3, "d")},
		step{add("l"), res(api.ResWritten, 11, "l")},
		step{write(10, "K"), res(api.ResTaken, 10, "k")},
		step{write(0, "a"), res(api.ResWritten, 0, "a")},
		step{read(500), res(api.ResNone, 500, "")},
		step{write(500, long(65)), res(0, 0, "")},
		step{add("m"), res(api.ResWritten, 12, "m")},
		step{write(13, "n"), res(api.ResWritten, 13, "n")},
		step{add("o"), res(api.ResWritten, 14, "o")})
	expectCells(t, l, []api.Cell{cell(0, "a"), cell(3, "d"), cell(10, "k"), cell(11, "l"), cell(12, "m"), cell(13, "n"), cell(14, "o")})
}

func TestFullLedger(t *testing.T) {
	l := ledger.New()
	for i, c := range fullCells() {
		if i%2 == 0 {
			walk(t, l, step{add(c.Value), res(api.ResWritten, i, c.Value)})
		} else {
			walk(t, l, step{write(i, c.Value), res(api.ResWritten, i, c.Value)})
		}
		walk(t, l, step{count(), res(api.ResCount, i+1, "")})
	}
	for i, c := range fullCells() {
		walk(t, l, step{write(i, "later"), res(api.ResTaken, i, c.Value)}, step{read(i), res(api.ResFound, i, c.Value)}, step{add("later"), res(api.ResFull, 0, "")})
	}
	expectCells(t, l, fullCells())
}

// What Check refuses is answered by the zero Result, and changes nothing.
func TestDoOfWrongOps(t *testing.T) {
	l := mustFrom(t, cell(0, "a"), cell(9, "j"))
	var wrong []api.Op
	for _, kind := range noKinds {
		wrong = append(wrong, op(kind, 0, ""), op(kind, 3, "x"))
	}
	for _, slot := range noSlots {
		wrong = append(wrong, write(slot, "x"), read(slot), op(api.OpAppend, slot, "x"), op(api.OpCount, slot, ""))
	}
	wrong = append(wrong, write(3, long(65)), add(long(65)), op(api.OpRead, 0, "a"), op(api.OpCount, 0, "a"), op(api.OpAppend, 10, "x"), op(api.OpCount, 2, ""))
	for _, w := range wrong {
		walk(t, l, step{w, res(0, 0, "")})
	}
	expectCells(t, l, []api.Cell{cell(0, "a"), cell(9, "j")})
}

func TestDoIsTheTable(t *testing.T) {
	r := rand.New(rand.NewPCG(1, 4))
	for range 300 {
		l := ledger.New()
		var b board
		for _, op := range someOps(r, 60) {
			walk(t, l, step{op, b.do(op)})
		}
		expectCells(t, l, b.cells())
	}
}

// All scripts of four operations out of a few.
func TestDoOfAllShortScripts(t *testing.T) {
	few := []api.Op{write(0, "a"), write(0, "b"), write(1, ""), write(1022, "y"), write(1023, "z"), add("p"), add(""), read(0), read(1023), count(), op(0, 0, "")}
	n := len(few)
	for script := range n * n * n * n {
		l := ledger.New()
		var b board
		rest := script
		for range 4 {
			op := few[rest%n]
			rest /= n
			if got, want := l.Do(op), b.do(op); got != want {
				t.Fatalf("script %d, Do(%v): %v, want %v", script, op, got, want)
			}
		}
		if got := l.Cells(); !slices.Equal(got, b.cells()) {
			t.Fatalf("script %d: cells %v, want %v", script, got, b.cells())
		}
	}
}

// P4.3: Get, Len, Cells and Clone.

func TestGetWhereThereIsNoSlot(t *testing.T) {
	for _, l := range []*ledger.Ledger{ledger.New(), mustFrom(t, fullCells()...)} {
		for _, slot := range noSlots {
			if value, ok := l.Get(slot); value != "" || ok {
				t.Errorf("Get(%d): %q, %v", slot, value, ok)
			}
		}
	}
}

func TestGetTellsEmptyFromNone(t *testing.T) {
	l := mustFrom(t, cell(4, ""))
	if value, ok := l.Get(4); value != "" || !ok {
		t.Errorf("Get of an empty value: %q, %v", value, ok)
	}
	if value, ok := l.Get(5); value != "" || ok {
		t.Errorf("Get of an empty slot: %q, %v", value, ok)
	}
}

// Rising, however they were taken, and each time.
func TestCellsRise(t *testing.T) {
	l := ledger.New()
	var want []api.Cell
	for i := range 100 {
		want = append(want, cell(i*10, "v"))
		slot := i * 37 % 100 * 10 // each of these slots once, up and down
		walk(t, l, step{write(slot, "v"), res(api.ResWritten, slot, "v")})
	}
	for range 20 {
		expectCells(t, l, want)
	}
}

// P2: Cells are the caller's.
func TestCellsMemory(t *testing.T) {
	l := mustFrom(t, cell(1, "a"), cell(2, "b"), cell(3, "c"))
	first, second := l.Cells(), l.Cells()
	spoil(first)
	if !slices.Equal(second, []api.Cell{cell(1, "a"), cell(2, "b"), cell(3, "c")}) {
		t.Errorf("another answer is spoilt: %v", second)
	}
	expectCells(t, l, []api.Cell{cell(1, "a"), cell(2, "b"), cell(3, "c")})
	walk(t, l, step{write(0, "later"), res(api.ResWritten, 0, "later")})
	if !slices.Equal(second, []api.Cell{cell(1, "a"), cell(2, "b"), cell(3, "c")}) {
		t.Errorf("an answer is changed by a later write: %v", second)
	}
}

func TestClone(t *testing.T) {
	for _, cells := range [][]api.Cell{nil, {cell(0, "")}, {cell(1, "a"), cell(7, "b")}, {cell(1023, long(64))}, fullCells()} {
		l := mustFrom(t, cells...)
		c := l.Clone()
		if c == nil || c == l {
			t.Fatalf("Clone is no ledger of its own: %v", c)
		}
		expectCells(t, c, cells)
		expectCells(t, l, cells)
	}
}

// Neither knows of the other, nor a clone of another clone.
func TestCloneIsApart(t *testing.T) {
	l := mustFrom(t, cell(2, "c"))
	a, b := l.Clone(), l.Clone()
	walk(t, l, step{write(5, "l"), res(api.ResWritten, 5, "l")}, step{add("L"), res(api.ResWritten, 6, "L")})
	walk(t, a, step{read(5), res(api.ResNone, 5, "")}, step{add("a"), res(api.ResWritten, 3, "a")}, step{write(5, "A"), res(api.ResWritten, 5, "A")})
	walk(t, b, step{write(1023, "b"), res(api.ResWritten, 1023, "b")}, step{add("B"), res(api.ResFull, 0, "")})
	expectCells(t, l, []api.Cell{cell(2, "c"), cell(5, "l"), cell(6, "L")})
	expectCells(t, a, []api.Cell{cell(2, "c"), cell(3, "a"), cell(5, "A")})
	expectCells(t, b, []api.Cell{cell(2, "c"), cell(1023, "b")})
	empty := ledger.New()
	c := empty.Clone()
	walk(t, c, step{add("x"), res(api.ResWritten, 0, "x")})
	expectCells(t, empty, nil)
}

// Two ledgers that New made are apart too.
func TestNewIsApart(t *testing.T) {
	a, b := ledger.New(), ledger.New()
	walk(t, a, step{write(0, "a"), res(api.ResWritten, 0, "a")})
	expectCells(t, b, nil)
	walk(t, b, step{add("b"), res(api.ResWritten, 0, "b")})
	expectCells(t, a, []api.Cell{cell(0, "a")})
}

// P4.4: From.

func TestFrom(t *testing.T) {
	for _, cells := range [][]api.Cell{
		nil, {}, {cell(0, "")}, {cell(1023, long(64))}, {cell(0, "a"), cell(1, "a"), cell(2, "")},
		{cell(3, "\xff"), cell(500, long(64)), cell(1022, ""), cell(1023, "z")}, fullCells(),
	} {
		expectCells(t, mustFrom(t, cells...), cells)
	}
	if l, e := ledger.From(nil); l == nil || e != api.OK {
		t.Errorf("From(nil): %v, %d", l, e)
	}
	if l, e := ledger.From([]api.Cell{}); l == nil || e != api.OK {
		t.Errorf("From of none: %v, %d", l, e)
	}
}

// A ledger of From goes on like any other.
func TestFromGoesOn(t *testing.T) {
	l := mustFrom(t, cell(3, "d"), cell(9, ""))
	walk(t, l,
		step{add("k"), res(api.ResWritten, 10, "k")},
		step{write(9, "j"), res(api.ResTaken, 9, "")},
		step{write(4, "e"), res(api.ResWritten, 4, "e")},
		step{count(), res(api.ResCount, 4, "")})
	walk(t, mustFrom(t), step{add("a"), res(api.ResWritten, 0, "a")}, step{add("b"), res(api.ResWritten, 1, "b")})
	walk(t, mustFrom(t, cell(1023, "")), step{add("a"), res(api.ResFull, 0, "")}, step{write(0, "a"), res(api.ResWritten, 0, "a")})
}

func expectErrCells(t *testing.T, cells ...api.Cell) {
	t.Helper()
	if l, e := ledger.From(cells); l != nil || e != api.ErrCells {
		t.Errorf("From(%v): %v, %d, want nil and ErrCells", cells, l, e)
	}
}

// Example 5 is the first.
func TestFromOfWrongCells(t *testing.T) {
	expectErrCells(t, cell(2, "a"), cell(2, "b"))
	expectErrCells(t, cell(2, "a"), cell(2, "a"))
	expectErrCells(t, cell(2, "a"), cell(1, "b"))
	expectErrCells(t, cell(2, "a"), cell(3, "b"), cell(2, "a"))
	expectErrCells(t, cell(0, "a"), cell(0, "a"))
	expectErrCells(t, cell(1, "a"), cell(0, "a"))
	expectErrCells(t, cell(1023, "a"), cell(1023, "a"))
	expectErrCells(t, cell(1023, "a"), cell(1024, "a"))
	expectErrCells(t, cell(0, "a"), cell(math.MaxInt, "a"))
	expectErrCells(t, cell(0, "a"), cell(math.MinInt, "a"))
	for _, slot := range noSlots {
		expectErrCells(t, cell(slot, ""))
	}
	for _, bytes := range []int{65, 66, 128, 1 << 16} {
		expectErrCells(t, cell(0, long(bytes)))
		expectErrCells(t, cell(3, "a"), cell(1023, long(bytes)))
		expectErrCells(t, cell(3, long(bytes)), cell(4, "a"))
	}
	swapped := fullCells()
	swapped[700], swapped[701] = swapped[701], swapped[700]
	expectErrCells(t, swapped...)
	expectErrCells(t, append(fullCells(), cell(1024, ""))...)
	expectErrCells(t, append(fullCells(), cell(0, ""))...)
}

// P2: From neither changes nor keeps the list.
func TestFromMemory(t *testing.T) {
	roomy := []api.Cell{cell(1, "a"), cell(2, "b"), cell(3, "behind"), cell(4, "behind")}
	l := mustFrom(t, roomy[:2]...)
	walk(t, l, step{add("c"), res(api.ResWritten, 3, "c")})
	if !slices.Equal(roomy, []api.Cell{cell(1, "a"), cell(2, "b"), cell(3, "behind"), cell(4, "behind")}) {
		t.Errorf("what was given is changed: %v", roomy)
	}
	spoil(roomy)
	expectCells(t, l, []api.Cell{cell(1, "a"), cell(2, "b"), cell(3, "c")})
}

// P4.7: a nil Ledger, and one that no call made.

func TestNilLedger(t *testing.T) {
	var l *ledger.Ledger
	ops := []api.Op{write(0, "a"), add("a"), read(0), count(), op(0, 0, ""), write(-1, "")}
	for _, op := range ops {
		walk(t, l, step{op, res(0, 0, "")})
	}
	for _, slot := range append([]int{0, 7, 1023}, noSlots...) {
		if value, ok := l.Get(slot); value != "" || ok {
			t.Errorf("Get(%d): %q, %v", slot, value, ok)
		}
	}
	if l.Len() != 0 || len(l.Cells()) != 0 || l.Clone() != nil {
		t.Errorf("Len %d, Cells %v, Clone %v", l.Len(), l.Cells(), l.Clone())
	}
}

// Whatever it answers, each call of it ends.
func TestZeroLedger(t *testing.T) {
	for _, op := range []api.Op{write(0, "a"), add("a"), read(0), count(), op(0, 0, ""), write(-1, "")} {
		var l ledger.Ledger
		l.Would(op)
		l.Get(0)
		l.Len()
		l.Cells()
		if c := l.Clone(); c != nil {
			c.Do(op)
		}
		l.Do(op)
		l.Do(op)
		l.Get(0)
		l.Len()
		l.Cells()
		l.Clone()
	}
}
