package oplog_test

import (
	"math"
	"math/rand/v2"
	"strings"
	"testing"

	"amnesia/api"
	"amnesia/oplog"
)

// P6.1: Check.

// Example 1.
func TestCheckExample(t *testing.T) {
	three := list(w(0, 1), w(1, 1), w(0, 2))
	expectCheck(t, three, 3, api.OK, 0)
	expectCheck(t, three, 2, api.ErrFull, 2)
	expectCheck(t, list(w(0, 2), w(0, 1)), 9, api.ErrTwice, 2)
	expectCheck(t, list(w(0, 1), w(0, 1)), 9, api.ErrTwice, 2)
	expectCheck(t, list(w(16, 1)), 9, api.ErrClient, 1)
	expectCheck(t, list(w(0, 0)), 9, api.ErrNumber, 1)
	expectCheck(t, nil, 0, api.ErrArg, 0)
	expectCheck(t, nil, 257, api.ErrArg, 0)
}

func TestCheckRoom(t *testing.T) {
	for room := 1; room <= 256; room++ {
		expectCheck(t, nil, room, api.OK, 0)
		expectCheck(t, []api.Entry{}, room, api.OK, 0)
		expectCheck(t, longLog(room-1), room, api.OK, 0)
		expectCheck(t, longLog(room), room, api.OK, 0)
		expectCheck(t, longLog(room+1), room, api.ErrFull, room)
	}
	expectCheck(t, longLog(1000), 1, api.ErrFull, 1)
	expectCheck(t, longLog(1000), 256, api.ErrFull, 256)
}

// The room is told ahead of the log, and too many entries ahead of what is wrong with them.
func TestCheckRoomFirst(t *testing.T) {
	for _, room := range noRooms {
		for _, l := range [][]api.Entry{nil, {}, list(w(0, 1)), list(w(16, 0)), longLog(257), make([]api.Entry, 1000)} {
			expectCheck(t, l, room, api.ErrArg, 0)
		}
	}
	expectCheck(t, make([]api.Entry, 257), 256, api.ErrFull, 256)
	expectCheck(t, make([]api.Entry, 256), 256, api.ErrNumber, 1)
	expectCheck(t, list(w(16, 1), w(0, 0)), 1, api.ErrFull, 1)
	expectCheck(t, list(w(0, 1), w(0, 1)), 1, api.ErrFull, 1)
}

func TestCheckClients(t *testing.T) {
	for c := range 16 {
		expectCheck(t, list(w(c, 1)), 1, api.OK, 0)
	}
	for _, c := range noClients {
		expectCheck(t, list(w(c, 1)), 1, api.ErrClient, 1)
		expectCheck(t, append(longLog(255), w(c, 1)), 256, api.ErrClient, 256)
		expectCheck(t, append(list(w(c, 1)), longLog(9)...), 256, api.ErrClient, 1)
	}
}

func TestCheckNumbers(t *testing.T) {
	for _, n := range []int{1, 2, 1 << 31, 1 << 32, math.MaxInt - 1, math.MaxInt} {
		expectCheck(t, list(w(0, n)), 1, api.OK, 0)
		expectCheck(t, list(w(15, n)), 1, api.OK, 0)
	}
	expectCheck(t, list(w(3, 1), w(3, math.MaxInt-1), w(3, math.MaxInt)), 3, api.OK, 0)
	for _, n := range noNumbers {
		expectCheck(t, list(w(0, n)), 1, api.ErrNumber, 1)
		expectCheck(t, list(w(15, n)), 1, api.ErrNumber, 1)
		expectCheck(t, append(longLog(255), w(5, n)), 256, api.ErrNumber, 256)
	}
}

func TestCheckOps(t *testing.T) {
	long := strings.Repeat("v", 64)
	for _, op := range []api.Op{write(0, ""), write(1023, long), add(""), add(long), read(0), read(1023), count()} {
		expectCheck(t, list(entry(0, 1, op)), 1, api.OK, 0)
	}
	for _, x := range wrongOps() {
		expectCheck(t, list(entry(0, 1, x.op)), 1, x.e, 1)
		expectCheck(t, list(w(0, 1), w(1, 1), entry(0, 2, x.op), w(2, 1)), 9, x.e, 3)
	}
}

func TestCheckTwice(t *testing.T) {
	for c := range 16 {
		other := (c + 1) % 16
		expectCheck(t, list(w(c, 9), w(other, 9), w(c, 9)), 9, api.ErrTwice, 3)
		expectCheck(t, list(w(c, 9), w(other, 1), w(other, 2), w(c, 8)), 9, api.ErrTwice, 4)
		expectCheck(t, list(w(c, math.MaxInt), w(c, math.MaxInt)), 9, api.ErrTwice, 2)
		expectCheck(t, list(w(c, math.MaxInt), w(c, 1)), 9, api.ErrTwice, 2)
		expectCheck(t, append(longLog(255), w(c, 1)), 256, api.ErrTwice, 256)
	}
	// Another operation makes no other request.
	expectCheck(t, list(entry(0, 1, write(1, "a")), entry(0, 1, read(2))), 9, api.ErrTwice, 2)
	// Above the greatest, not just above the one ahead.
	expectCheck(t, list(w(4, 1), w(4, 7), w(4, 6)), 9, api.ErrTwice, 3)
	// Other clients' numbers are their own affair.
	expectCheck(t, list(w(0, 9), w(1, 9), w(2, 1), w(15, math.MaxInt), w(14, math.MaxInt)), 9, api.OK, 0)
}

// Of one entry with several faults the first by the chapter's order.
func TestCheckOrderWithinAnEntry(t *testing.T) {
	ahead := w(1, 5)
	for _, x := range wrongOps() {
		for _, c := range noClients {
			for _, n := range append([]int{5}, noNumbers...) {
				expectCheck(t, list(ahead, entry(c, n, x.op)), 9, api.ErrClient, 2)
			}
		}
		for _, n := range noNumbers {
			expectCheck(t, list(ahead, entry(1, n, x.op)), 9, api.ErrNumber, 2)
		}
		expectCheck(t, list(ahead, entry(1, 5, x.op)), 9, x.e, 2)
		expectCheck(t, list(ahead, entry(1, 4, x.op)), 9, x.e, 2)
	}
	for _, n := range noNumbers { // it does not rise either
		expectCheck(t, list(ahead, w(1, n)), 9, api.ErrNumber, 2)
	}
}

// An entry of each fault, behind client 1's number 5.
func faulty() []struct {
	entry api.Entry
	e     api.Errno
} {
	return []struct {
		entry api.Entry
		e     api.Errno
	}{
		{w(16, 1), api.ErrClient}, {w(-1, 6), api.ErrClient}, {w(1, 0), api.ErrNumber}, {entry(1, 6, api.Op{}), api.ErrOp},
		{entry(1, 6, read(-1)), api.ErrSlot}, {entry(1, 6, api.Op{Kind: api.OpCount, Value: "x"}), api.ErrValue}, {w(1, 5), api.ErrTwice}, {w(1, 4), api.ErrTwice},
	}
}

// Of several faulty entries the first, whichever its fault is.
func TestCheckOrderOfEntries(t *testing.T) {
	for _, a := range faulty() {
		for _, b := range faulty() {
			expectCheck(t, list(w(1, 5), a.entry, b.entry), 9, a.e, 2)
			expectCheck(t, list(w(1, 5), w(0, 1), a.entry, w(0, 2), b.entry), 9, a.e, 3)
		}
	}
}

// What lies in the room behind a list's end is no part of it.
func TestCheckRoomBehind(t *testing.T) {
	roomy := list(w(0, 1), w(0, 2), w(16, 0), w(0, 1))
	expectCheck(t, roomy[:2], 2, api.OK, 0)
	expectCheck(t, roomy[:0], 1, api.OK, 0)
}

func TestCheckAsTheChapterSays(t *testing.T) {
	r := rand.New(rand.NewPCG(6, 1))
	met := map[api.Errno]int{}
	for range 5000 {
		l := spoiltLog(r, r.IntN(14))
		room := 1 + r.IntN(16)
		if r.IntN(3) > 0 {
			room = 256 - r.IntN(2)
		}
		want, place := wantCheck(l, room)
		met[want]++
		expectCheck(t, l, room, want, place)
	}
	for _, e := range []api.Errno{api.OK, api.ErrFull, api.ErrClient, api.ErrNumber, api.ErrOp, api.ErrSlot, api.ErrValue, api.ErrTwice} {
		if met[e] < 20 {
			t.Errorf("the error %d was met %d times", e, met[e])
		}
	}
}

// P6.2: Append.

// Example 2.
func TestAppendExample(t *testing.T) {
	expectAppend(t, list(w(0, 1)), 2, w(0, 2), list(w(0, 1), w(0, 2)))
	failAppend(t, list(w(0, 1)), 1, w(0, 2), api.ErrFull)
	failAppend(t, list(w(0, 2)), 2, w(0, 1), api.ErrTwice)
	failAppend(t, nil, 2, entry(0, 1, api.Op{Kind: 9}), api.ErrOp)
	failAppend(t, list(w(0, 1)), 2, entry(0, 2, api.Op{Kind: 9}), api.ErrOp)
}

func TestAppendToNone(t *testing.T) {
	for _, room := range []int{1, 2, 255, 256} {
		expectAppend(t, nil, room, w(0, 1), list(w(0, 1)))
		expectAppend(t, []api.Entry{}, room, w(15, math.MaxInt), list(w(15, math.MaxInt)))
	}
}

// One behind the other until the room is full.
func TestAppendUntilFull(t *testing.T) {
	for _, room := range []int{1, 2, 100, 256} {
		var l []api.Entry
		for i := range room {
			next := longLog(room + 1)[i]
			expectAppend(t, l, room, next, longLog(i+1))
			l, _ = oplog.Append(l, room, next)
		}
		failAppend(t, l, room, longLog(room + 1)[room], api.ErrFull)
	}
}

func TestAppendOfAWrongEntry(t *testing.T) {
	ahead := list(w(1, 5))
	for _, x := range faulty() {
		failAppend(t, ahead, 2, x.entry, x.e)
		failAppend(t, ahead, 256, x.entry, x.e)
		failAppend(t, ahead, 1, x.entry, api.ErrFull) // ahead of the entry's own
	}
	for _, c := range noClients {
		failAppend(t, ahead, 2, entry(c, 0, api.Op{}), api.ErrClient)
	}
	for _, n := range noNumbers {
		failAppend(t, ahead, 2, entry(1, n, api.Op{}), api.ErrNumber)
		failAppend(t, nil, 2, w(0, n), api.ErrNumber)
	}
	for _, x := range wrongOps() {
		failAppend(t, ahead, 2, entry(1, 5, x.op), x.e)
		failAppend(t, nil, 2, entry(1, 5, x.op), x.e)
	}
	failAppend(t, list(w(1, math.MaxInt)), 2, w(1, math.MaxInt), api.ErrTwice)
	expectAppend(t, list(w(1, math.MaxInt)), 2, w(0, math.MaxInt), list(w(1, math.MaxInt), w(0, math.MaxInt)))
}

// The errors of the log come first, whatever the entry is.
func TestAppendToAWrongLog(t *testing.T) {
	entries := list(w(0, 9), w(16, 1), w(0, 0), entry(0, 9, api.Op{}), w(1, 5))
	for _, e := range entries {
		for _, room := range noRooms {
			failAppend(t, nil, room, e, api.ErrArg)
			failAppend(t, list(w(16, 0)), room, e, api.ErrArg)
		}
		for _, x := range faulty() {
			failAppend(t, list(w(1, 5), x.entry), 9, e, x.e)
			failAppend(t, list(w(1, 5), x.entry), 2, e, x.e) // ahead of ErrFull: the log has no more than its room
			failAppend(t, list(w(1, 5), x.entry), 1, e, api.ErrFull)
		}
		failAppend(t, longLog(257), 256, e, api.ErrFull)
	}
}

// Append's errors are Check's of the list with the entry behind.
func TestAppendAsTheChapterSays(t *testing.T) {
	r := rand.New(rand.NewPCG(6, 2))
	met := map[api.Errno]int{}
	for range 5000 {
		all := append(spoiltLog(r, r.IntN(10)), someList(r, 1)...)
		l, e := all[:len(all)-1], all[len(all)-1]
		if r.IntN(2) == 0 {
			e = w(r.IntN(16), 1+r.IntN(12))
		}
		room := 1 + r.IntN(16)
		want, _ := wantCheck(l, room)
		if want == api.OK {
			want, _ = wantCheck(joined(l, list(e)), room)
		}
		met[want]++
		if want == api.OK {
			expectAppend(t, l, room, e, joined(l, list(e)))
		} else {
			failAppend(t, l, room, e, want)
		}
	}
	for _, e := range []api.Errno{api.OK, api.ErrFull, api.ErrClient, api.ErrNumber, api.ErrOp, api.ErrSlot, api.ErrValue, api.ErrTwice} {
		if met[e] < 20 {
			t.Errorf("the error %d was met %d times", e, met[e])
		}
	}
}
