package oplog_test

import (
	"math"
	"math/rand/v2"
	"slices"
	"strings"
	"testing"

	"amnesia/api"
	"amnesia/oplog"
)

func write(slot int, value string) api.Op {
	return api.Op{Kind: api.OpWrite, Slot: slot, Value: value}
}

func add(value string) api.Op { return api.Op{Kind: api.OpAppend, Value: value} }

func read(slot int) api.Op { return api.Op{Kind: api.OpRead, Slot: slot} }

func count() api.Op { return api.Op{Kind: api.OpCount} }

func entry(client, number int, op api.Op) api.Entry {
	return api.Entry{Client: client, Number: number, Op: op}
}

// The chapter's (c, k): an entry with the operation W.
func w(client, number int) api.Entry { return entry(client, number, write(1, "a")) }

func list(entries ...api.Entry) []api.Entry { return entries }

func res(code, slot int, value string) api.Result {
	return api.Result{Code: code, Slot: slot, Value: value}
}

func cell(slot int, value string) api.Cell { return api.Cell{Slot: slot, Value: value} }

// A log of so many entries: all clients by turns, with values as long as may be.
func longLog(n int) []api.Entry {
	var log []api.Entry
	for i := range n {
		log = append(log, entry(i%16, i+1, write(i, strings.Repeat(string(rune('a'+i%26)), 64))))
	}
	return log
}

// Rooms that no log has.
var noRooms = []int{math.MinInt, -1 << 32, -256, -1, 0, 257, 258, 512, 1 << 16, 1<<32 + 1, math.MaxInt}

// Clients that there aren't; some of them are one that there is, modulo a power of two.
var noClients = []int{math.MinInt, math.MinInt + 1, -1 << 32, -16, -1, 16, 17, 1 << 8, 1 << 16, 1 << 32, 1<<32 + 1, math.MaxInt}

// Numbers that may not be.
var noNumbers = []int{math.MinInt, math.MinInt + 1, -1 << 32, -2, -1, 0}

type wrongOp struct {
	op api.Op
	e  api.Errno
}

// Operations that ledger.Check refuses, with its errors.
func wrongOps() []wrongOp {
	long := strings.Repeat("v", 65)
	return []wrongOp{
		{api.Op{}, api.ErrOp}, {api.Op{Kind: 5}, api.ErrOp}, {api.Op{Kind: 9}, api.ErrOp}, {api.Op{Kind: -1, Slot: -1, Value: long}, api.ErrOp},
		{write(-1, "a"), api.ErrSlot}, {write(1024, long), api.ErrSlot}, {read(-1), api.ErrSlot}, {read(1024), api.ErrSlot},
		{api.Op{Kind: api.OpCount, Slot: 1}, api.ErrSlot}, {api.Op{Kind: api.OpAppend, Slot: 1, Value: "a"}, api.ErrSlot},
		{write(0, long), api.ErrValue}, {add(long), api.ErrValue}, {api.Op{Kind: api.OpRead, Value: "x"}, api.ErrValue}, {api.Op{Kind: api.OpCount, Value: "x"}, api.ErrValue},
	}
}

func someOp(r *rand.Rand) api.Op {
	slots := []int{0, 1, 2, 7, 1021, 1022, 1023}
	values := []string{"", "a", "b", "\x00\xff", strings.Repeat("v", 64)}
	slot, value := slots[r.IntN(len(slots))], values[r.IntN(len(values))]
	switch r.IntN(5) {
	case 0, 1:
		return write(slot, value)
	case 2:
		return add(value)
	case 3:
		return read(slot)
	}
	return count()
}

// A log that may be, of at most so many entries, with numbers that rise by steps great and small.
func someLog(r *rand.Rand, n int) []api.Entry {
	var log []api.Entry
	clients := 1 + r.IntN(16)
	var last [16]int
	for range n {
		c := r.IntN(clients)
		step := 1 + r.IntN(3)
		if r.IntN(8) == 0 && last[c] < math.MaxInt-1 {
			step = 1 + r.IntN((math.MaxInt-last[c])/2)
		}
		if step > math.MaxInt-last[c] {
			continue
		}
		last[c] += step
		log = append(log, entry(c, last[c], someOp(r)))
	}
	return log
}

// Any list: few clients and numbers, those that may not be among them, so that much is met twice.
func someList(r *rand.Rand, n int) []api.Entry {
	clients := []int{0, 1, 15, 16, -1, math.MinInt}
	numbers := []int{1, 2, 3, 0, -1, math.MinInt, math.MaxInt}
	var l []api.Entry
	for range n {
		op := someOp(r)
		if r.IntN(6) == 0 {
			op = wrongOps()[r.IntN(len(wrongOps()))].op
		}
		l = append(l, entry(clients[r.IntN(len(clients))], numbers[r.IntN(len(numbers))], op))
	}
	return l
}

// spoiltLog has some faults of all kinds laid into a log.
func spoiltLog(r *rand.Rand, n int) []api.Entry {
	log := someLog(r, n)
	for range r.IntN(4) {
		if len(log) == 0 {
			break
		}
		at := r.IntN(len(log))
		switch r.IntN(5) {
		case 0:
			log[at].Client = noClients[r.IntN(len(noClients))]
		case 1:
			log[at].Number = noNumbers[r.IntN(len(noNumbers))]
		case 2:
			log[at].Op = wrongOps()[r.IntN(len(wrongOps()))].op
		case 3:
			log = slices.Insert(log, at, log[r.IntN(len(log))])
		case 4:
			log[at].Number = 1 + r.IntN(9)
		}
	}
	return log
}

// wantCheck is P6.1 in another way: each entry is held against all ahead of it.
func wantCheck(l []api.Entry, room int) (api.Errno, int) {
	if room <= 0 || room >= 257 {
		return api.ErrArg, 0
	}
	if len(l) > room {
		return api.ErrFull, room
	}
	for i, e := range l {
		if e.Client < 0 || e.Client > 15 {
			return api.ErrClient, i + 1
		}
		if e.Number <= 0 {
			return api.ErrNumber, i + 1
		}
		for _, x := range wrongOps() {
			if x.op == e.Op {
				return x.e, i + 1
			}
		}
		for _, ahead := range l[:i] {
			if ahead.Client == e.Client && ahead.Number >= e.Number {
				return api.ErrTwice, i + 1
			}
		}
	}
	return api.OK, 0
}

func expectCheck(t *testing.T, l []api.Entry, room int, want api.Errno, wantPlace int) {
	t.Helper()
	if e, place := oplog.Check(l, room); e != want || place != wantPlace {
		t.Fatalf("Check of %d entries, room %d: %d, %d, want %d, %d\n%v", len(l), room, e, place, want, wantPlace, l)
	}
}

// expectLog asks for a list and OK, or, beside an error, for none.
func expectLog(t *testing.T, what string, got []api.Entry, e api.Errno, want []api.Entry, wantE api.Errno) {
	t.Helper()
	if e != wantE || !slices.Equal(got, want) {
		t.Fatalf("%s: %v, %d, want %v, %d", what, got, e, want, wantE)
	}
}

func expectAppend(t *testing.T, l []api.Entry, room int, e api.Entry, want []api.Entry) {
	t.Helper()
	got, err := oplog.Append(l, room, e)
	expectLog(t, "Append", got, err, want, api.OK)
}

func failAppend(t *testing.T, l []api.Entry, room int, e api.Entry, want api.Errno) {
	t.Helper()
	got, err := oplog.Append(l, room, e)
	expectLog(t, "Append", got, err, nil, want)
}

func expectCut(t *testing.T, l []api.Entry, n int, want []api.Entry) {
	t.Helper()
	got, e := oplog.Cut(l, n)
	expectLog(t, "Cut", got, e, want, api.OK)
}

func failCut(t *testing.T, l []api.Entry, n int, want api.Errno) {
	t.Helper()
	got, e := oplog.Cut(l, n)
	expectLog(t, "Cut", got, e, nil, want)
}

func expectTail(t *testing.T, l []api.Entry, from int, want []api.Entry) {
	t.Helper()
	got, e := oplog.Tail(l, from)
	expectLog(t, "Tail", got, e, want, api.OK)
}

func failTail(t *testing.T, l []api.Entry, from int, want api.Errno) {
	t.Helper()
	got, e := oplog.Tail(l, from)
	expectLog(t, "Tail", got, e, nil, want)
}

func expectSplice(t *testing.T, l []api.Entry, room, at int, tail, want []api.Entry) {
	t.Helper()
	got, e := oplog.Splice(l, room, at, tail)
	expectLog(t, "Splice", got, e, want, api.OK)
}

func failSplice(t *testing.T, l []api.Entry, room, at int, tail []api.Entry, want api.Errno) {
	t.Helper()
	got, e := oplog.Splice(l, room, at, tail)
	expectLog(t, "Splice", got, e, nil, want)
}

func expectReplay(t *testing.T, l []api.Entry, n int, wantCells []api.Cell, wantResults []api.Result) {
	t.Helper()
	cells, results, e := oplog.Replay(l, n)
	if e != api.OK || !slices.Equal(cells, wantCells) || !slices.Equal(results, wantResults) {
		t.Fatalf("Replay(%v, %d): %v, %v, %d, want %v, %v", l, n, cells, results, e, wantCells, wantResults)
	}
}

func failReplay(t *testing.T, l []api.Entry, n int) {
	t.Helper()
	if cells, results, e := oplog.Replay(l, n); e != api.ErrPlace || len(cells) != 0 || len(results) != 0 {
		t.Fatalf("Replay of %d entries, %d: %v, %v, %d, want ErrPlace", len(l), n, cells, results, e)
	}
}

// joined lays lists one behind the other without the calls that are tested.
func joined(lists ...[]api.Entry) []api.Entry { return slices.Concat(lists...) }
