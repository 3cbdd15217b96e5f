package ledger_test

import (
	"math"
	"math/rand/v2"
	"slices"
	"testing"

	"amnesia/api"
	"amnesia/ledger"
)

// P4.1: Check.

func expectCheck(t *testing.T, op api.Op, want api.Errno) {
	t.Helper()
	if e := ledger.Check(op); e != want {
		t.Errorf("Check(%d, %d, %q): %d, want %d", op.Kind, op.Slot, op.Value, e, want)
	}
}

func TestCheckTakesWhatMayBe(t *testing.T) {
	for _, value := range someValues() {
		expectCheck(t, add(value), api.OK)
		for slot := range api.MaxSlots {
			expectCheck(t, write(slot, value), api.OK)
		}
	}
	for slot := range api.MaxSlots {
		expectCheck(t, read(slot), api.OK)
	}
	expectCheck(t, count(), api.OK)
}

func TestCheckKinds(t *testing.T) {
	for _, kind := range noKinds {
		expectCheck(t, op(kind, 0, ""), api.ErrOp)
		expectCheck(t, op(kind, 3, "a"), api.ErrOp)
	}
}

func TestCheckSlots(t *testing.T) {
	for _, slot := range noSlots {
		expectCheck(t, write(slot, "a"), api.ErrSlot)
		expectCheck(t, read(slot), api.ErrSlot)
		expectCheck(t, op(api.OpAppend, slot, "a"), api.ErrSlot)
		expectCheck(t, op(api.OpCount, slot, ""), api.ErrSlot)
	}
	// Slots that there are, of kinds that use none.
	for slot := 1; slot < api.MaxSlots; slot++ {
		expectCheck(t, op(api.OpAppend, slot, "a"), api.ErrSlot)
		expectCheck(t, op(api.OpCount, slot, ""), api.ErrSlot)
	}
}

func TestCheckValues(t *testing.T) {
	for _, bytes := range []int{65, 66, 128, 256, 320, 1 << 16, 1 << 20} {
		expectCheck(t, write(0, long(bytes)), api.ErrValue)
		expectCheck(t, write(1023, long(bytes)), api.ErrValue)
		expectCheck(t, add(long(bytes)), api.ErrValue)
	}
	// 33 characters, but 66 bytes.
	twoBytes := ""
	for range 33 {
		twoBytes += "é"
	}
	expectCheck(t, add(twoBytes), api.ErrValue)
	for _, value := range []string{"x", "\x00", " ", long(64), long(65)} {
		expectCheck(t, op(api.OpRead, 0, value), api.ErrValue)
		expectCheck(t, op(api.OpRead, 1023, value), api.ErrValue)
		expectCheck(t, op(api.OpCount, 0, value), api.ErrValue)
	}
}

// Of several faults the first by the order of the chapter.
func TestCheckOrder(t *testing.T) {
	for _, kind := range noKinds {
		expectCheck(t, op(kind, -1, long(65)), api.ErrOp)
		expectCheck(t, op(kind, 1024, ""), api.ErrOp)
	}
	for kind := api.OpWrite; kind <= api.OpCount; kind++ {
		for _, slot := range noSlots {
			expectCheck(t, op(kind, slot, long(65)), api.ErrSlot)
		}
	}
	expectCheck(t, op(api.OpCount, 3, "x"), api.ErrSlot)
	expectCheck(t, op(api.OpAppend, 3, long(65)), api.ErrSlot)
}

// Example 4.
func TestCheckExample(t *testing.T) {
	l := ledger.New()
	for _, x := range []struct {
		op api.Op
		e  api.Errno
	}{
		{op(api.OpWrite, 1024, ""), api.ErrSlot}, {op(api.OpCount, 3, ""), api.ErrSlot},
		{op(api.OpRead, 1, "x"), api.ErrValue}, {op(0, -1, ""), api.ErrOp},
	} {
		expectCheck(t, x.op, x.e)
		if r := l.Do(x.op); r != res(0, 0, "") {
			t.Errorf("Do(%v): %v, want the zero Result", x.op, r)
		}
	}
	expectCells(t, l, nil)
}

// P4.5: Replay.

func expectReplay(t *testing.T, ops []api.Op, wantCells []api.Cell, wantResults []api.Result) {
	t.Helper()
	cells, results := ledger.Replay(ops)
	if !slices.Equal(cells, wantCells) {
		t.Errorf("Replay(%v): cells %v, want %v", ops, cells, wantCells)
	}
	if !slices.Equal(results, wantResults) {
		t.Errorf("Replay(%v): results %v, want %v", ops, results, wantResults)
	}
}

// Example 6.
func TestReplayExample(t *testing.T) {
	expectReplay(t, []api.Op{write(1, "a"), write(1, "b"), add("c")},
		[]api.Cell{cell(1, "a"), cell(2, "c")},
		[]api.Result{res(api.ResWritten, 1, "a"), res(api.ResTaken, 1, "a"), res(api.ResWritten, 2, "c")})
}

func TestReplayOfNone(t *testing.T) {
	expectReplay(t, nil, nil, nil)
	expectReplay(t, []api.Op{}, nil, nil)
}

// What Check refuses has a result too, at its place.
func TestReplayOfWrongOps(t *testing.T) {
	expectReplay(t, []api.Op{op(0, 0, ""), write(1024, "a"), write(3, "a"), op(api.OpRead, 3, "x"), read(3), op(9, 9, "9")},
		[]api.Cell{cell(3, "a")},
		[]api.Result{res(0, 0, ""), res(0, 0, ""), res(api.ResWritten, 3, "a"), res(0, 0, ""), res(api.ResFound, 3, "a"), res(0, 0, "")})
}

// More operations than there are slots.
func TestReplayOfMany(t *testing.T) {
	var ops []api.Op
	var wantCells []api.Cell
	var wantResults []api.Result
	for i := range 3000 {
		ops = append(ops, add(long(i%65)))
		if i < 1024 {
			wantCells = append(wantCells, cell(i, long(i%65)))
			wantResults = append(wantResults, res(api.ResWritten, i, long(i%65)))
		} else {
			wantResults = append(wantResults, res(api.ResFull, 0, ""))
		}
	}
	expectReplay(t, ops, wantCells, wantResults)
}

func TestReplayIsTheTable(t *testing.T) {
	r := rand.New(rand.NewPCG(4, 5))
	for range 300 {
		ops := someOps(r, r.IntN(60))
		var b board
		var want []api.Result
		for _, op := range ops {
			want = append(want, b.do(op))
		}
		expectReplay(t, ops, b.cells(), want)
	}
}

// P2: Replay changes nothing that it is given, nor what lies behind its end, and its answers are its caller's.
func TestReplayMemory(t *testing.T) {
	roomy := []api.Op{write(4, "a"), write(2, "b"), read(4), write(9, "behind"), write(10, "behind")}
	first, firstResults := ledger.Replay(roomy[:3])
	if !slices.Equal(roomy, []api.Op{write(4, "a"), write(2, "b"), read(4), write(9, "behind"), write(10, "behind")}) {
		t.Fatalf("what was given is changed: %v", roomy)
	}
	spoil(first)
	for i := range firstResults[:cap(firstResults)] {
		firstResults[:cap(firstResults)][i] = res(99, 99, "spoilt")
	}
	roomy[0] = write(5, "later")
	expectReplay(t, []api.Op{write(4, "a"), write(2, "b"), read(4)},
		[]api.Cell{cell(2, "b"), cell(4, "a")},
		[]api.Result{res(api.ResWritten, 4, "a"), res(api.ResWritten, 2, "b"), res(api.ResFound, 4, "a")})
}

// spoil writes over all that a list reaches, its spare room too.
func spoil(cells []api.Cell) {
	all := cells[:cap(cells)]
	for i := range all {
		all[i] = cell(99, "spoilt")
	}
}

// P4.6: Each.

func gather(t *testing.T, cells []api.Cell) []api.Cell {
	t.Helper()
	var got []api.Cell
	for slot, value := range ledger.Each(cells) {
		got = append(got, cell(slot, value))
	}
	return got
}

// Any cells, those that may not be too, in their own order.
func oddCells() []api.Cell {
	return []api.Cell{
		cell(5, "a"), cell(2, ""), cell(5, "b"), cell(-1, long(65)), cell(math.MinInt, "\xff"), cell(math.MaxInt, "z"), cell(0, ""), cell(5, "a"),
	}
}

func TestEach(t *testing.T) {
	for n := range len(oddCells()) + 1 {
		if got := gather(t, oddCells()[:n]); !slices.Equal(got, oddCells()[:n]) {
			t.Errorf("Each of %d: %v", n, got)
		}
	}
	if got := gather(t, nil); len(got) != 0 {
		t.Errorf("Each of nil: %v", got)
	}
	if got := gather(t, []api.Cell{}); len(got) != 0 {
		t.Errorf("Each of none: %v", got)
	}
	if got := gather(t, fullCells()); !slices.Equal(got, fullCells()) {
		t.Errorf("Each of a full ledger's cells: %v", got)
	}
}

// What Cells and Replay answer is gone over by Each.
func TestEachOfCells(t *testing.T) {
	cells, _ := ledger.Replay([]api.Op{write(8, "h"), write(3, "c"), add("i")})
	if got := gather(t, cells); !slices.Equal(got, []api.Cell{cell(3, "c"), cell(8, "h"), cell(9, "i")}) {
		t.Errorf("Each of Replay's cells: %v", got)
	}
	l := mustFrom(t, cell(0, ""), cell(1023, "z"))
	if got := gather(t, l.Cells()); !slices.Equal(got, []api.Cell{cell(0, ""), cell(1023, "z")}) {
		t.Errorf("Each of Cells: %v", got)
	}
}

// Left behind each of its cells; then it is gone over again, from the first cell on.
func TestEachLeftEarlyAndAgain(t *testing.T) {
	each := ledger.Each(oddCells())
	for n := 1; n <= len(oddCells()); n++ {
		var got []api.Cell
		for slot, value := range each {
			got = append(got, cell(slot, value))
			if len(got) == n {
				break
			}
		}
		if !slices.Equal(got, oddCells()[:n]) {
			t.Errorf("left behind %d: %v", n, got)
		}
	}
	for range 2 {
		var got []api.Cell
		for slot, value := range each {
			got = append(got, cell(slot, value))
		}
		if !slices.Equal(got, oddCells()) {
			t.Errorf("gone over again: %v", got)
		}
	}
}

// Who says that it is enough is not asked again.
func TestEachStopsWhenTold(t *testing.T) {
	asked := 0
	ledger.Each(oddCells())(func(int, string) bool {
		asked++
		return asked < 3
	})
	if asked != 3 {
		t.Errorf("asked %d times, want 3", asked)
	}
}

// The inner one leaves the outer one alone, left early or not.
func TestEachNested(t *testing.T) {
	each := ledger.Each(oddCells())
	n := len(oddCells())
	var outer []api.Cell
	inner := 0
	for slot, value := range each {
		outer = append(outer, cell(slot, value))
		at := 0
		for slot, value := range each {
			if oddCells()[at] != cell(slot, value) {
				t.Fatalf("nested: %d, %q at %d", slot, value, at)
			}
			at++
			inner++
			if len(outer)%2 == 0 && at == 3 {
				break
			}
		}
	}
	if !slices.Equal(outer, oddCells()) || inner != n/2*n+n/2*3 {
		t.Errorf("outer %v, inner %d times", outer, inner)
	}
}

// The cells are those of Each's call, whatever becomes of the list ahead of going over it, and meanwhile.
func TestEachAsTheyWere(t *testing.T) {
	roomy := append(oddCells(), cell(7, "behind"))
	given := roomy[:len(oddCells())]
	each := ledger.Each(given)
	given[1] = cell(1000, "later")
	var got []api.Cell
	for slot, value := range each {
		got = append(got, cell(slot, value))
		spoil(roomy)
	}
	if !slices.Equal(got, oddCells()) {
		t.Errorf("changed meanwhile: %v", got)
	}
}

// P1: nobody to hand the cells to.
func TestEachForNobody(t *testing.T) {
	ledger.Each(nil)(nil)
	ledger.Each(oddCells())(nil)
}
