package oplog_test

import (
	"math"
	"math/rand/v2"
	"slices"
	"strings"
	"testing"

	"amnesia/api"
	"amnesia/ledger"
	"amnesia/oplog"
)

// P6.5: Common, Begins, Agree.

// All three of two lists that share so long a beginning, in either order.
func expectCommon(t *testing.T, a, b []api.Entry, want int) {
	t.Helper()
	for _, x := range [][2][]api.Entry{{a, b}, {b, a}} {
		if got := oplog.Common(x[0], x[1]); got != want {
			t.Fatalf("Common(%v, %v): %d, want %d", x[0], x[1], got, want)
		}
		if got := oplog.Begins(x[0], x[1]); got != (want == len(x[0])) {
			t.Fatalf("Begins(%v, %v): %v, with %d in common", x[0], x[1], got, want)
		}
		for n := -2; n <= max(len(a), len(b))+2; n++ {
			if got := oplog.Agree(x[0], x[1], n); got != (n >= 0 && n <= want) {
				t.Fatalf("Agree(%v, %v, %d): %v, with %d in common", x[0], x[1], n, got, want)
			}
		}
		for _, n := range []int{math.MinInt, -1 << 32, 1 << 32, math.MaxInt} {
			if oplog.Agree(x[0], x[1], n) {
				t.Fatalf("Agree(%v, %v, %d): true", x[0], x[1], n)
			}
		}
	}
}

// Example 5.
func TestCommonExample(t *testing.T) {
	a, b := list(w(0, 1), w(0, 2)), list(w(0, 1), w(1, 2))
	if oplog.Common(a, b) != 1 || !oplog.Agree(a, b, 1) || oplog.Agree(a, b, 2) || oplog.Agree(a, b, 3) || oplog.Agree(a, b, -1) {
		t.Error("example 5")
	}
	expectCommon(t, a, b, 1)
}

func TestCommonOfNone(t *testing.T) {
	for _, none := range [][]api.Entry{nil, {}} {
		expectCommon(t, none, nil, 0)
		expectCommon(t, none, []api.Entry{}, 0)
		expectCommon(t, none, list(w(0, 1)), 0)
		if !oplog.Begins(none, longLog(3)) || oplog.Begins(longLog(3), none) || !oplog.Agree(none, longLog(3), 0) {
			t.Error("of none")
		}
	}
}

// Entries that differ in one field alone are not the same.
func TestCommonAsksForEachField(t *testing.T) {
	same := entry(1, 2, write(3, "v"))
	unlike := []api.Entry{
		entry(2, 2, write(3, "v")), entry(1, 3, write(3, "v")), entry(1, 2, api.Op{Kind: api.OpAppend, Slot: 3, Value: "v"}),
		entry(1, 2, write(4, "v")), entry(1, 2, write(3, "w")), entry(1, 2, write(3, "")), entry(1, 2, write(3, "v\x00")), {},
	}
	for _, other := range unlike {
		expectCommon(t, list(same), list(other), 0)
		expectCommon(t, list(w(0, 1), same, w(0, 3)), list(w(0, 1), other, w(0, 3)), 1)
	}
	again := entry(1, 2, write(3, strings.Clone("v"))) // the same bytes elsewhere in memory
	expectCommon(t, list(same), list(again), 1)
}

// Lists that may not be, and those above any room, are compared like others.
func TestCommonOfAnyLists(t *testing.T) {
	for _, l := range pieceLists() {
		for n := range len(l) + 1 {
			if n > 5 && n < len(l)-5 {
				continue
			}
			expectCommon(t, l, l[:n], n)
			expectCommon(t, l, joined(l[:n], list(w(77, -7))), n)
			if n < len(l) {
				turned := slices.Clone(l)
				turned[n].Number ^= 1 << 40
				expectCommon(t, l, turned, n)
			}
		}
	}
}

// What lies in the room behind a list's end is no part of it.
func TestCommonRoomBehind(t *testing.T) {
	l := list(w(0, 1), w(0, 2), w(0, 3))
	expectCommon(t, l[:1], list(w(0, 1), w(0, 2), w(0, 3))[:2], 1)
	expectCommon(t, l[:0], l, 0)
}

// P6.6: Find and Last.

func expectFind(t *testing.T, l []api.Entry, client, number, want int) {
	t.Helper()
	if got := oplog.Find(l, client, number); got != want {
		t.Fatalf("Find(%v, %d, %d): %d, want %d", l, client, number, got, want)
	}
}

func expectLast(t *testing.T, l []api.Entry, client, want int) {
	t.Helper()
	if got := oplog.Last(l, client); got != want {
		t.Fatalf("Last(%v, %d): %d, want %d", l, client, got, want)
	}
}

// Example 6.
func TestFindAndLastExample(t *testing.T) {
	expectFind(t, list(w(0, 1), w(0, 2)), 0, 2, 2)
	expectFind(t, list(w(0, 1), w(0, 2)), 1, 1, 0)
	expectLast(t, list(w(0, 1), w(0, 5)), 0, 5)
	expectLast(t, list(w(0, 1), w(0, 5)), 3, 0)
}

func TestFindAndLastOfNone(t *testing.T) {
	for _, none := range [][]api.Entry{nil, {}, list(w(0, 1))[:0]} {
		for _, c := range append([]int{0, 15}, noClients...) {
			expectLast(t, none, c, 0)
			for _, n := range append([]int{1, math.MaxInt}, noNumbers...) {
				expectFind(t, none, c, n, 0)
			}
		}
	}
}

// Of several places the first; both the client and the number are asked for.
func TestFindTheFirst(t *testing.T) {
	l := list(w(1, 2), w(2, 1), w(2, 2), entry(2, 2, read(9)), w(1, 1), w(1, 2))
	expectFind(t, l, 2, 2, 3)
	expectFind(t, l, 1, 2, 1)
	expectFind(t, l, 2, 1, 2)
	expectFind(t, l, 1, 1, 5)
	expectFind(t, l, 3, 1, 0)
	expectFind(t, l, 1, 3, 0)
}

// The greatest, wherever it stands; numbers that are not above 0 are as none.
func TestLastIsTheGreatest(t *testing.T) {
	l := list(w(1, 9), w(2, 3), w(1, 4), w(3, 0), w(4, -5), w(5, math.MinInt), w(6, math.MaxInt), w(6, 1), w(7, -1), w(7, 1))
	for c, want := range map[int]int{0: 0, 1: 9, 2: 3, 3: 0, 4: 0, 5: 0, 6: math.MaxInt, 7: 1} {
		expectLast(t, l, c, want)
	}
}

// Clients and numbers that may not be are found like others.
func TestFindAndLastOfAnyLists(t *testing.T) {
	for _, c := range append([]int{0, 15}, noClients...) {
		expectLast(t, list(w(3, 8), w(c, 7), w(3, 9)), c, 7)
		for _, n := range append([]int{1, math.MaxInt}, noNumbers...) {
			l := list(w(3, 8), w(c, n), w(3, 9))
			expectFind(t, l, c, n, 2)
			expectLast(t, l, c, max(n, 0))
		}
	}
	long := append(longLog(1000), w(16, 1))
	expectFind(t, long, 16, 1, 1001)
	expectLast(t, long, 16, 1)
	expectLast(t, long, 7, 1000)
}

func TestFindAndLastAsTheChapterSays(t *testing.T) {
	r := rand.New(rand.NewPCG(6, 4))
	found := 0
	for range 3000 {
		l := someList(r, r.IntN(12))
		asked := someList(r, 1)[0]
		want := 1 + slices.IndexFunc(l, func(e api.Entry) bool { return e.Client == asked.Client && e.Number == asked.Number })
		expectFind(t, l, asked.Client, asked.Number, want)
		found += min(want, 1)
		greatest := 0
		for _, e := range l {
			if e.Client == asked.Client && e.Number > greatest {
				greatest = e.Number
			}
		}
		expectLast(t, l, asked.Client, greatest)
	}
	if found < 100 {
		t.Errorf("found %d times", found)
	}
}

// P6.7: Replay.

// Example 7.
func TestReplayExample(t *testing.T) {
	expectReplay(t, list(w(0, 1), w(0, 2)), 2, []api.Cell{cell(1, "a")}, []api.Result{res(api.ResWritten, 1, "a"), res(api.ResTaken, 1, "a")})
}

// Each code that a ledger answers, at each length.
func TestReplayAtEachLength(t *testing.T) {
	l := list(
		entry(9, 1, read(1023)), entry(8, 1, write(1022, "y")), entry(8, 2, add("z")), entry(7, 1, add("x")), entry(6, 1, read(1023)),
		entry(5, 1, write(1023, "")), entry(4, 1, count()), entry(3, 1, write(0, "")))
	results := []api.Result{
		res(api.ResNone, 1023, ""), res(api.ResWritten, 1022, "y"), res(api.ResWritten, 1023, "z"), res(api.ResFull, 0, ""), res(api.ResFound, 1023, "z"),
		res(api.ResTaken, 1023, "z"), res(api.ResCount, 2, ""), res(api.ResWritten, 0, ""),
	}
	cells := [][]api.Cell{nil, nil, {cell(1022, "y")}}
	for range 5 {
		cells = append(cells, []api.Cell{cell(1022, "y"), cell(1023, "z")})
	}
	cells = append(cells, []api.Cell{cell(0, ""), cell(1022, "y"), cell(1023, "z")})
	for n := range len(l) + 1 {
		expectReplay(t, l, n, cells[n], results[:n])
	}
}

// What stands in a log is not asked: what ledger.Check refuses has the zero Result.
func TestReplayOfAWrongLog(t *testing.T) {
	l := list(entry(16, 0, write(3, "a")), entry(16, 0, write(3, "b")), entry(0, 1, api.Op{Kind: 9}), entry(-1, -1, read(1024)), entry(0, 0, read(3)), api.Entry{})
	results := []api.Result{res(api.ResWritten, 3, "a"), res(api.ResTaken, 3, "a"), res(0, 0, ""), res(0, 0, ""), res(api.ResFound, 3, "a"), res(0, 0, "")}
	expectReplay(t, l, 0, nil, nil)
	for n := 1; n <= len(l); n++ {
		expectReplay(t, l, n, []api.Cell{cell(3, "a")}, results[:n])
	}
}

func TestReplayEdges(t *testing.T) {
	for _, l := range pieceLists() {
		n := len(l)
		expectReplay(t, l, 0, nil, nil)
		for _, at := range []int{-1, n + 1, -n - 1, math.MinInt, math.MaxInt, -1 << 32, 1 << 32} {
			failReplay(t, l, at)
		}
		if _, results, e := oplog.Replay(l, n); e != api.OK || len(results) != n {
			t.Errorf("Replay of %d entries: %d results, %d", n, len(results), e)
		}
	}
	failReplay(t, list(w(0, 1), w(0, 2))[:1], 2) // the room behind is no part of it
}

func TestReplayIsTheLedgers(t *testing.T) {
	r := rand.New(rand.NewPCG(6, 5))
	for range 300 {
		l := someLog(r, r.IntN(40))
		if r.IntN(3) == 0 {
			l = someList(r, r.IntN(40))
		}
		n := r.IntN(len(l) + 1)
		var ops []api.Op
		for _, e := range l[:n] {
			ops = append(ops, e.Op)
		}
		cells, results := ledger.Replay(ops)
		expectReplay(t, l, n, cells, results)
	}
}
