package oplog_test

import (
	"iter"
	"math"
	"slices"
	"testing"

	"amnesia/api"
	"amnesia/oplog"
)

// P6.8: Each.

type stop struct {
	place int
	entry api.Entry
}

func gather(each iter.Seq2[int, api.Entry]) []stop {
	var got []stop
	for place, e := range each {
		got = append(got, stop{place, e})
	}
	return got
}

// What Each is to go over, from the i-th place on.
func wantStops(l []api.Entry, from int) []stop {
	var want []stop
	for i, e := range l {
		if i+1 >= from {
			want = append(want, stop{i + 1, e})
		}
	}
	return want
}

func expectEach(t *testing.T, l []api.Entry, from int) {
	t.Helper()
	if got := gather(oplog.Each(l, from)); !slices.Equal(got, wantStops(l, from)) {
		t.Fatalf("Each(%v, %d): %v", l, from, got)
	}
}

// Any list, those that may not be too.
func oddList() []api.Entry {
	return list(w(0, 2), w(0, 1), w(16, 0), entry(-1, math.MinInt, api.Op{Kind: 9}), w(0, 2), api.Entry{}, entry(3, math.MaxInt, add("z")), w(0, 2))
}

func TestEach(t *testing.T) {
	for _, l := range append(pieceLists(), oddList()) {
		for from := -1; from <= len(l)+2; from++ {
			expectEach(t, l, from)
		}
		for _, from := range []int{math.MinInt, math.MinInt + 1, -1 << 32, 1<<32 + 1, math.MaxInt - 1, math.MaxInt} {
			expectEach(t, l, from)
		}
	}
}

// What lies in the room behind a list's end is no part of it.
func TestEachRoomBehind(t *testing.T) {
	expectEach(t, oddList()[:2], 0)
	expectEach(t, oddList()[:2], 2)
	expectEach(t, oddList()[:2], 3)
	expectEach(t, oddList()[:0], 1)
}

// Left behind each of its places; then it is gone over again, from its first place on.
func TestEachLeftEarlyAndAgain(t *testing.T) {
	for _, from := range []int{0, 1, 4, 8} {
		want := wantStops(oddList(), from)
		each := oplog.Each(oddList(), from)
		for n := 1; n <= len(want); n++ {
			var got []stop
			for place, e := range each {
				got = append(got, stop{place, e})
				if len(got) == n {
					break
				}
			}
			if !slices.Equal(got, want[:n]) {
				t.Errorf("from %d, left behind %d: %v", from, n, got)
			}
		}
		for range 2 {
			if got := gather(each); !slices.Equal(got, want) {
				t.Errorf("from %d, gone over again: %v", from, got)
			}
		}
	}
}

// Who says that it is enough is not asked again.
func TestEachStopsWhenTold(t *testing.T) {
	asked := 0
	oplog.Each(oddList(), 2)(func(int, api.Entry) bool {
		asked++
		return asked < 3
	})
	if asked != 3 {
		t.Errorf("asked %d times, want 3", asked)
	}
}

// The inner one leaves the outer one alone, left early or not.
func TestEachNested(t *testing.T) {
	want := wantStops(oddList(), 3)
	each := oplog.Each(oddList(), 3)
	var outer []stop
	inner := 0
	for place, e := range each {
		outer = append(outer, stop{place, e})
		at := 0
		for place, e := range each {
			if want[at] != (stop{place, e}) {
				t.Fatalf("nested: %d, %v at %d", place, e, at)
			}
			at++
			inner++
			if len(outer)%2 == 0 && at == 2 {
				break
			}
		}
	}
	if !slices.Equal(outer, want) || inner != 3*6+3*2 {
		t.Errorf("outer %v, inner %d times", outer, inner)
	}
}

// Two of one call, by turns.
func TestEachByTurns(t *testing.T) {
	each := oplog.Each(oddList(), 1)
	nextA, stopA := iter.Pull2(each)
	defer stopA()
	nextB, stopB := iter.Pull2(each)
	defer stopB()
	nextA()
	for i, e := range oddList() {
		if place, got, ok := nextB(); !ok || place != i+1 || got != e {
			t.Fatalf("the second at %d: %d, %v, %v", i, place, got, ok)
		}
		place, got, ok := nextA()
		if last := i == len(oddList())-1; ok == last || !last && (place != i+2 || got != oddList()[i+1]) {
			t.Fatalf("the first at %d: %d, %v, %v", i, place, got, ok)
		}
	}
}

// The entries are those of Each's call, whatever becomes of the list ahead of going over it, and meanwhile.
func TestEachAsTheyWere(t *testing.T) {
	for _, from := range []int{math.MinInt, 1, 3, 8, 9} {
		roomy := append(oddList(), w(9, 9))
		given := roomy[:len(oddList())]
		each := oplog.Each(given, from)
		given[0], given[2], given[7] = w(5, 5), w(6, 6), w(7, 7)
		var got []stop
		for place, e := range each {
			got = append(got, stop{place, e})
			spoil(roomy)
		}
		if !slices.Equal(got, wantStops(oddList(), from)) {
			t.Errorf("from %d, changed meanwhile: %v", from, got)
		}
	}
}

// P1: nobody to hand the entries to.
func TestEachForNobody(t *testing.T) {
	oplog.Each(nil, 0)(nil)
	oplog.Each(oddList(), 1)(nil)
	oplog.Each(oddList(), 99)(nil)
}
