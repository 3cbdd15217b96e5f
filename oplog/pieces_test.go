package oplog_test

import (
	"math"
	"math/rand/v2"
	"testing"

	"amnesia/api"
)

// P6.3: Cut and Tail.

// Example 3.
func TestCutAndTailExample(t *testing.T) {
	l := list(w(0, 1), w(0, 2))
	expectCut(t, l, 1, list(w(0, 1)))
	failCut(t, l, 3, api.ErrPlace)
	expectTail(t, l, 2, list(w(0, 2)))
	expectTail(t, l, 3, nil)
	failTail(t, l, 4, api.ErrPlace)
}

// Lists of all kinds: what stands in them is not asked, nor is a room.
func pieceLists() [][]api.Entry {
	return [][]api.Entry{
		nil, {}, list(w(0, 1)), list(w(0, 1), w(0, 2), w(1, 1)), make([]api.Entry, 3), longLog(256), longLog(300),
		list(w(16, 0), w(16, 0), w(-1, math.MinInt), entry(0, 0, api.Op{Kind: -1})),
	}
}

func TestCutAndTailAtEachPlace(t *testing.T) {
	for _, l := range pieceLists() {
		for n := range len(l) + 1 {
			expectCut(t, l, n, l[:n])
			expectTail(t, l, n+1, l[n:])
		}
	}
}

func TestCutAndTailOutside(t *testing.T) {
	for _, l := range pieceLists() {
		n := len(l)
		for _, at := range []int{-1, n + 1, -n - 1, math.MinInt, math.MaxInt, -1 << 32, 1 << 32} {
			failCut(t, l, at, api.ErrPlace)
		}
		for _, at := range []int{0, -1, n + 2, -n - 1, math.MinInt, math.MaxInt, -1 << 32, 1<<32 + 1} {
			failTail(t, l, at, api.ErrPlace)
		}
	}
	// What lies in the room behind a list's end is no part of it.
	roomy := list(w(0, 1), w(0, 2), w(0, 3))[:1]
	failCut(t, roomy, 2, api.ErrPlace)
	failTail(t, roomy, 3, api.ErrPlace)
	expectTail(t, roomy, 1, list(w(0, 1)))
	expectTail(t, roomy, 2, nil)
}

// P6.4: Splice.

// Example 4.
func TestSpliceExample(t *testing.T) {
	three := list(w(0, 1), w(0, 2), w(0, 3))
	expectSplice(t, three, 9, 2, list(w(1, 7)), list(w(0, 1), w(1, 7)))
	failSplice(t, three, 9, 5, nil, api.ErrPlace)
	failSplice(t, three, 9, 3, list(w(0, 1)), api.ErrTwice)
}

func TestSpliceAtEachPlace(t *testing.T) {
	l := list(w(0, 1), w(1, 1), w(0, 2), w(2, 9))
	tail := list(w(3, 1), w(0, 5), w(1, 2))
	for at := 1; at <= 5; at++ {
		for n := range len(tail) + 1 {
			expectSplice(t, l, 9, at, tail[:n], joined(l[:at-1], tail[:n]))
		}
	}
}

func TestSpliceOfNone(t *testing.T) {
	for _, none := range [][]api.Entry{nil, {}} {
		for _, other := range [][]api.Entry{nil, {}} {
			expectSplice(t, none, 1, 1, other, nil)
		}
		expectSplice(t, none, 1, 1, list(w(0, 1)), list(w(0, 1)))
		expectSplice(t, longLog(256), 256, 257, none, longLog(256))
		expectSplice(t, longLog(256), 256, 256, none, longLog(255))
		expectSplice(t, longLog(256), 256, 1, none, nil)
	}
}

// Numbers that fall out are no longer in the way.
func TestSpliceInsteadOfTheSame(t *testing.T) {
	l := list(w(0, 1), w(0, 2), w(0, 3))
	expectSplice(t, l, 3, 2, list(w(0, 2), w(0, 3)), l)
	expectSplice(t, l, 3, 1, l, l)
	expectSplice(t, l, 3, 1, list(w(0, 1)), list(w(0, 1)))
	expectSplice(t, list(w(0, math.MaxInt)), 3, 1, list(w(0, 1)), list(w(0, 1)))
	failSplice(t, l, 9, 4, list(w(0, 3)), api.ErrTwice)
}

func TestSpliceRoom(t *testing.T) {
	for _, room := range []int{1, 2, 3, 255, 256} {
		l, all := longLog(room), longLog(room+1)
		for _, at := range []int{1, room, room + 1} {
			expectSplice(t, l, room, at, all[at-1:room], l)
			failSplice(t, l, room, at, all[at-1:], api.ErrFull)
		}
		failSplice(t, all, room, 1, nil, api.ErrFull)
		failSplice(t, nil, room, 1, make([]api.Entry, 5000), api.ErrFull) // ahead of the entries' own
	}
}

func TestSplicePlace(t *testing.T) {
	for _, l := range [][]api.Entry{nil, list(w(0, 1)), list(w(0, 1), w(0, 2), w(0, 3)), longLog(256)} {
		n := len(l)
		for _, at := range []int{0, -1, n + 2, -n - 1, math.MinInt, math.MaxInt, -1 << 32, 1<<32 + 1} {
			for _, tail := range [][]api.Entry{nil, list(w(15, math.MaxInt)), list(w(16, 0)), make([]api.Entry, 300)} {
				failSplice(t, l, 256, at, tail, api.ErrPlace) // ahead of the errors of what is made
			}
		}
	}
	failSplice(t, list(w(0, 1), w(0, 2), w(0, 3))[:1], 9, 3, nil, api.ErrPlace) // the room behind is no part of it
}

// The errors of l come first, even where the entries at fault would fall out.
func TestSpliceOfAWrongLog(t *testing.T) {
	for _, at := range []int{math.MinInt, 0, 1, 2, 3, 4, math.MaxInt} {
		for _, tail := range [][]api.Entry{nil, list(w(2, 1)), list(w(16, 0)), make([]api.Entry, 300)} {
			for _, room := range noRooms {
				failSplice(t, nil, room, at, tail, api.ErrArg)
				failSplice(t, list(w(16, 0)), room, at, tail, api.ErrArg)
			}
			for _, x := range faulty() {
				failSplice(t, list(w(1, 5), x.entry), 9, at, tail, x.e)
				failSplice(t, list(w(1, 5), x.entry), 1, at, tail, api.ErrFull)
			}
		}
	}
}

// The tail's own faults, and those that it has behind what it is laid.
func TestSpliceOfAWrongTail(t *testing.T) {
	l := list(w(1, 5), w(0, 1), w(0, 2))
	for _, a := range faulty() {
		for at := 2; at <= 4; at++ {
			failSplice(t, l, 9, at, list(a.entry), a.e)
			failSplice(t, l, 9, at, list(w(2, 2), a.entry), a.e)
			for _, b := range faulty() {
				failSplice(t, l, 9, at, list(a.entry, b.entry), a.e)
			}
		}
	}
	failSplice(t, l, 9, 4, list(w(3, 3), w(3, 3)), api.ErrTwice)
	failSplice(t, l, 3, 4, list(w(16, 0)), api.ErrFull)
	expectSplice(t, l, 9, 1, list(w(1, 5)), list(w(1, 5)))
}

func TestSpliceAsTheChapterSays(t *testing.T) {
	r := rand.New(rand.NewPCG(6, 3))
	met := map[api.Errno]int{}
	for range 8000 {
		l, tail := spoiltLog(r, r.IntN(8)), spoiltLog(r, r.IntN(5))
		if r.IntN(2) == 0 {
			l = someLog(r, r.IntN(8))
		}
		room, at := 1+r.IntN(12), r.IntN(len(l)+3)
		want, _ := wantCheck(l, room)
		if want == api.OK && (at < 1 || at > len(l)+1) {
			want = api.ErrPlace
		}
		var s []api.Entry
		if want == api.OK {
			s = joined(l[:at-1], tail)
			want, _ = wantCheck(s, room)
		}
		met[want]++
		if want == api.OK {
			expectSplice(t, l, room, at, tail, s)
		} else {
			failSplice(t, l, room, at, tail, want)
		}
	}
	for _, e := range []api.Errno{api.OK, api.ErrFull, api.ErrPlace, api.ErrClient, api.ErrNumber, api.ErrOp, api.ErrSlot, api.ErrValue, api.ErrTwice} {
		if met[e] < 20 {
			t.Errorf("the error %d was met %d times", e, met[e])
		}
	}
}
