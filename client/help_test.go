package client_test

import (
	"math"
	"math/rand/v2"
	"slices"
	"strings"
	"testing"

	"amnesia/api"
	"amnesia/client"
)

func write(slot int, value string) api.Op {
	return api.Op{Kind: api.OpWrite, Slot: slot, Value: value}
}

func add(value string) api.Op { return api.Op{Kind: api.OpAppend, Value: value} }

func read(slot int) api.Op { return api.Op{Kind: api.OpRead, Slot: slot} }

func count() api.Op { return api.Op{Kind: api.OpCount} }

func entry(client, number int, op api.Op) api.Entry {
	return api.Entry{Client: client, Number: number, Op: op}
}

func res(code, slot int, value string) api.Result {
	return api.Result{Code: code, Slot: slot, Value: value}
}

func pending(client, number, place int) api.Row {
	return api.Row{Client: client, Number: number, Place: place}
}

func done(client, number, place int, result api.Result) api.Row {
	return api.Row{Client: client, Number: number, Place: place, Done: true, Result: result}
}

// The log of the chapter's examples.
func example() []api.Entry {
	return []api.Entry{entry(1, 1, write(7, "a")), entry(2, 5, write(7, "b")), entry(1, 2, read(7))}
}

// A log of so many entries: all clients by turns, with values as long as may be.
func longLog(n int) []api.Entry {
	var log []api.Entry
	for i := range n {
		log = append(log, entry(i%16, i+1, write(i, strings.Repeat(string(rune('a'+i%26)), 64))))
	}
	return log
}

// Clients that there aren't; some of them are one that there is, modulo a power of two.
var noClients = []int{math.MinInt, math.MinInt + 1, -1 << 32, -16, -1, 16, 17, 1 << 8, 1 << 16, 1 << 32, 1<<32 + 1, math.MaxInt}

// Numbers that may not be.
var noNumbers = []int{math.MinInt, math.MinInt + 1, -1 << 32, -2, -1, 0}

// Operations that ledger.Check refuses, with its errors.
func wrongOps() []struct {
	op api.Op
	e  api.Errno
} {
	return []struct {
		op api.Op
		e  api.Errno
	}{
		{api.Op{}, api.ErrOp}, {api.Op{Kind: 5}, api.ErrOp}, {api.Op{Kind: -1, Slot: -1}, api.ErrOp},
		{write(-1, "a"), api.ErrSlot}, {write(1024, "a"), api.ErrSlot}, {read(1024), api.ErrSlot}, {api.Op{Kind: api.OpCount, Slot: 1}, api.ErrSlot}, {api.Op{Kind: api.OpAppend, Slot: 1, Value: "a"}, api.ErrSlot},
		{write(0, strings.Repeat("v", 65)), api.ErrValue}, {add(strings.Repeat("v", 65)), api.ErrValue}, {api.Op{Kind: api.OpRead, Value: "x"}, api.ErrValue}, {api.Op{Kind: api.OpCount, Value: "x"}, api.ErrValue},
	}
}

func someOp(r *rand.Rand) api.Op {
	slots := []int{0, 1, 2, 7, 1021, 1022, 1023}
	values := []string{"", "a", "b", "\x00\xff", strings.Repeat("v", 64)}
	slot, value := slots[r.IntN(len(slots))], values[r.IntN(len(values))]
	switch r.IntN(5) {
	case 0, 1:
		return write(slot, value)
	case 2:
		return add(value)
	case 3:
		return read(slot)
	}
	return count()
}

// A log that may be, of so many entries, with numbers that rise by steps great and small.
func someLog(r *rand.Rand, n int) []api.Entry {
	var log []api.Entry
	clients := 1 + r.IntN(16)
	var last [16]int
	for range n {
		c := r.IntN(clients)
		step := 1 + r.IntN(3)
		if r.IntN(8) == 0 {
			step = 1 + r.IntN((math.MaxInt-last[c])/2)
		}
		if step > math.MaxInt-last[c] {
			continue
		}
		last[c] += step
		log = append(log, entry(c, last[c], someOp(r)))
	}
	return log
}

// slate is the ledger in another form: a place for each slot.
type slate struct {
	taken [1024]bool
	value [1024]string
}

func (s *slate) do(op api.Op) api.Result {
	n, next := 0, 0
	for slot, taken := range s.taken {
		if taken {
			n, next = n+1, slot+1
		}
	}
	slot := op.Slot
	if op.Kind == api.OpAppend {
		slot = next
	}
	switch {
	case op.Kind == api.OpCount:
		return res(api.ResCount, n, "")
	case op.Kind == api.OpAppend && next == 1024:
		return res(api.ResFull, 0, "")
	case op.Kind == api.OpRead && s.taken[slot]:
		return res(api.ResFound, slot, s.value[slot])
	case op.Kind == api.OpRead:
		return res(api.ResNone, slot, "")
	case s.taken[slot]:
		return res(api.ResTaken, slot, s.value[slot])
	}
	s.taken[slot], s.value[slot] = true, op.Value
	return res(api.ResWritten, slot, op.Value)
}

// What each place of a log that may be answers, one by one.
func play(log []api.Entry) []api.Result {
	var s slate
	var results []api.Result
	for _, e := range log {
		results = append(results, s.do(e.Op))
	}
	return results
}

// The table as the chapter says it: client by client, from the log's end back.
func wantTable(log []api.Entry, results []api.Result, commit int) []api.Row {
	var table []api.Row
	for c := range 16 {
		for place := len(log); place >= 1; place-- {
			if log[place-1].Client != c {
				continue
			}
			row := pending(c, log[place-1].Number, place)
			if place <= commit {
				row = done(c, log[place-1].Number, place, results[place-1])
			}
			table = append(table, row)
			break
		}
	}
	return table
}

// The verdict as the chapter says it, by that table.
func wantVerdict(table []api.Row, c, number int) (api.Verdict, api.Result) {
	i := slices.IndexFunc(table, func(row api.Row) bool { return row.Client == c })
	switch {
	case i < 0:
		return api.VerdictFresh, res(0, 0, "")
	case number > table[i].Number:
		return api.VerdictFresh, res(0, 0, "")
	case number < table[i].Number:
		return api.VerdictOld, res(0, 0, "")
	case table[i].Done:
		return api.VerdictDone, table[i].Result
	}
	return api.VerdictPending, res(0, 0, "")
}

func expectTable(t *testing.T, log []api.Entry, commit int, want ...api.Row) {
	t.Helper()
	if got, e := client.Table(log, commit); e != api.OK || !slices.Equal(got, want) {
		t.Fatalf("Table(%v, %d): %v, %d, want %v", log, commit, got, e, want)
	}
}

func expectAsk(t *testing.T, log []api.Entry, commit, c, number int, wantV api.Verdict, want api.Result) {
	t.Helper()
	if v, got, e := client.Ask(log, commit, c, number); e != api.OK || v != wantV || got != want {
		t.Fatalf("Ask(%v, %d, %d, %d): %d, %v, %d, want %d, %v", log, commit, c, number, v, got, e, wantV, want)
	}
}

func expectBetween(t *testing.T, log []api.Entry, from, to int, want ...api.Row) {
	t.Helper()
	if got, e := client.Between(log, from, to); e != api.OK || !slices.Equal(got, want) {
		t.Fatalf("Between(%v, %d, %d): %v, %d, want %v", log, from, to, got, e, want)
	}
}

// Beside an error all else is zero.

func failTable(t *testing.T, log []api.Entry, commit int, want api.Errno) {
	t.Helper()
	if got, e := client.Table(log, commit); e != want || len(got) != 0 {
		t.Fatalf("Table of %d entries, %d: %v, %d, want %d", len(log), commit, got, e, want)
	}
}

func failAsk(t *testing.T, log []api.Entry, commit, c, number int, want api.Errno) {
	t.Helper()
	if v, got, e := client.Ask(log, commit, c, number); e != want || v != 0 || got != res(0, 0, "") {
		t.Fatalf("Ask of %d entries, %d, %d, %d: %d, %v, %d, want %d", len(log), commit, c, number, v, got, e, want)
	}
}

func failBetween(t *testing.T, log []api.Entry, from, to int, want api.Errno) {
	t.Helper()
	if got, e := client.Between(log, from, to); e != want || len(got) != 0 {
		t.Fatalf("Between of %d entries, %d, %d: %v, %d, want %d", len(log), from, to, got, e, want)
	}
}

// A log that may not be: all three calls say so, whatever else they are asked.
func failLog(t *testing.T, log []api.Entry, want api.Errno) {
	t.Helper()
	for _, n := range []int{0, len(log), -1, len(log) + 1, math.MinInt, math.MaxInt} {
		failTable(t, log, n, want)
		failAsk(t, log, n, 1, 1, want)
		failAsk(t, log, n, 16, 0, want)
		failBetween(t, log, 0, n, want)
		failBetween(t, log, n, 0, want)
	}
}
