package oplog_test

import (
	"math/rand/v2"
	"slices"
	"testing"

	"amnesia/api"
	"amnesia/oplog"
)

func mustCut(t *testing.T, l []api.Entry, n int) []api.Entry {
	t.Helper()
	cut, e := oplog.Cut(l, n)
	if e != api.OK {
		t.Fatalf("Cut of %d entries, %d: %d", len(l), n, e)
	}
	return cut
}

func mustTail(t *testing.T, l []api.Entry, from int) []api.Entry {
	t.Helper()
	tail, e := oplog.Tail(l, from)
	if e != api.OK {
		t.Fatalf("Tail of %d entries, %d: %d", len(l), from, e)
	}
	return tail
}

// P6.9: what Append, Splice and Cut answer.

// Append is Splice with one entry behind all, its errors too; Check takes what it answers, and the log begins it.
func TestAppendIsSplice(t *testing.T) {
	r := rand.New(rand.NewPCG(6, 6))
	appended := 0
	for range 4000 {
		l := spoiltLog(r, r.IntN(10))
		room := r.IntN(20)
		e := w(r.IntN(17), r.IntN(40))
		a, eA := oplog.Append(l, room, e)
		b, eB := oplog.Splice(l, room, len(l)+1, list(e))
		if eA != eB || !slices.Equal(a, b) {
			t.Fatalf("Append(%v, %d, %v): %v, %d; Splice: %v, %d", l, room, e, a, eA, b, eB)
		}
		if eA != api.OK {
			continue
		}
		appended++
		expectCheck(t, a, room, api.OK, 0)
		if !oplog.Begins(l, a) || len(a) != len(l)+1 || a[len(l)] != e {
			t.Fatalf("Append(%v, %d, %v): %v", l, room, e, a)
		}
	}
	if appended < 200 {
		t.Errorf("appended %d times", appended)
	}
}

// Splice begins with Cut's answer and ends with the tail; Check takes what it answers; so is Cut's answer taken.
func TestSpliceIsCutAndTail(t *testing.T) {
	r := rand.New(rand.NewPCG(6, 7))
	spliced := 0
	for range 4000 {
		l, other := someLog(r, r.IntN(12)), someLog(r, r.IntN(12))
		room := 1 + r.IntN(24)
		at := 1 + r.IntN(len(l)+1)
		if e, _ := oplog.Check(l, room); e == api.OK {
			expectCheck(t, mustCut(t, l, at-1), room, api.OK, 0)
		}
		s, e := oplog.Splice(l, room, at, other)
		if e != api.OK {
			continue
		}
		spliced++
		expectCheck(t, s, room, api.OK, 0)
		cut := mustCut(t, l, at-1)
		if !oplog.Begins(cut, s) || !slices.Equal(mustTail(t, s, at), other) || len(s) != len(cut)+len(other) {
			t.Fatalf("Splice(%v, %d, %d, %v): %v", l, room, at, other, s)
		}
		expectSplice(t, cut, room, at, other, s) // what is cut off is not asked
	}
	if spliced < 200 {
		t.Errorf("spliced %d times", spliced)
	}
}

// P6.10: beginnings.

func TestCutAndTailAreTheLog(t *testing.T) {
	r := rand.New(rand.NewPCG(6, 8))
	for range 500 {
		l := someList(r, r.IntN(20))
		for n := range len(l) + 1 {
			cut, tail := mustCut(t, l, n), mustTail(t, l, n+1)
			if !slices.Equal(joined(cut, tail), l) {
				t.Fatalf("%v: Cut %d %v, Tail %v", l, n, cut, tail)
			}
		}
	}
}

func TestBeginsIsAnOrder(t *testing.T) {
	r := rand.New(rand.NewPCG(6, 9))
	for range 500 {
		l := someList(r, r.IntN(10))
		a, b := mustCut(t, l, r.IntN(len(l)+1)), mustCut(t, l, r.IntN(len(l)+1))
		if !oplog.Begins(l, l) || !oplog.Begins(a, a) || !oplog.Begins(a, l) || !oplog.Begins(nil, l) {
			t.Fatalf("%v does not begin with itself, or with %v", l, a)
		}
		if oplog.Begins(a, b) != (len(a) <= len(b)) || oplog.Begins(b, a) != (len(b) <= len(a)) {
			t.Fatalf("two beginnings of one log: %v, %v", a, b)
		}
	}
	// All lists of at most three out of two entries: if both ways, the same; of a chain of three the ends.
	all := [][]api.Entry{nil}
	for i := 0; len(all[i]) < 3; i++ {
		all = append(all, joined(all[i], list(w(0, 1))), joined(all[i], list(w(1, 1))))
	}
	for _, a := range all {
		for _, b := range all {
			if oplog.Begins(a, b) && oplog.Begins(b, a) != slices.Equal(a, b) {
				t.Fatalf("both ways: %v, %v", a, b)
			}
			for _, c := range all {
				if oplog.Begins(a, b) && oplog.Begins(b, c) && !oplog.Begins(a, c) {
					t.Fatalf("a chain: %v, %v, %v", a, b, c)
				}
			}
		}
	}
}

func TestAgreeJustUpToCommon(t *testing.T) {
	r := rand.New(rand.NewPCG(6, 10))
	for range 1000 {
		l := someList(r, r.IntN(8))
		n := r.IntN(len(l) + 1)
		a, b := joined(l, someList(r, r.IntN(3))), joined(l[:n], someList(r, r.IntN(4)))
		want := 0
		for want < min(len(a), len(b)) && a[want] == b[want] {
			want++
		}
		expectCommon(t, a, b, want)
	}
}

// P6.11: of a log that may be.

func TestFindAndLastOfALog(t *testing.T) {
	r := rand.New(rand.NewPCG(6, 11))
	for range 300 {
		l := someLog(r, r.IntN(60))
		expectCheck(t, l, 256, api.OK, 0)
		var last [16]int
		for i, e := range l {
			expectFind(t, l, e.Client, e.Number, i+1)
			last[e.Client] = e.Number
		}
		for c, number := range last {
			expectLast(t, l, c, number)
		}
	}
}

// P6.12: a longer log plays on.

func TestALongerLogPlaysOn(t *testing.T) {
	r := rand.New(rand.NewPCG(6, 12))
	for range 200 {
		b := someLog(r, r.IntN(40))
		if r.IntN(4) == 0 {
			b = someList(r, r.IntN(40))
		}
		cells, results, _ := oplog.Replay(b, len(b))
		for n := range len(b) + 1 {
			a := mustCut(t, b, n)
			if !oplog.Begins(a, b) {
				t.Fatalf("%v does not begin %v", a, b)
			}
			ahead, some, e := oplog.Replay(a, n)
			if e != api.OK || !slices.Equal(some, results[:n]) {
				t.Fatalf("Replay of %v: %v, %d, want a beginning of %v", a, some, e, results)
			}
			expectReplay(t, b, n, ahead, some)
			for _, c := range ahead {
				if !slices.Contains(cells, c) {
					t.Fatalf("the cell %v is lost or turned: %v", c, cells)
				}
			}
		}
	}
}
