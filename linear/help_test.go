package linear_test

import (
	"math"
	"math/rand/v2"
	"slices"
	"strings"
	"testing"

	"amnesia/api"
	"amnesia/linear"
)

func write(slot int, value string) api.Op {
	return api.Op{Kind: api.OpWrite, Slot: slot, Value: value}
}

func add(value string) api.Op { return api.Op{Kind: api.OpAppend, Value: value} }

func read(slot int) api.Op { return api.Op{Kind: api.OpRead, Slot: slot} }

var count = api.Op{Kind: api.OpCount}

func res(code, slot int, value string) api.Result {
	return api.Result{Code: code, Slot: slot, Value: value}
}

func written(slot int, value string) api.Result { return res(api.ResWritten, slot, value) }

func taken(slot int, value string) api.Result { return res(api.ResTaken, slot, value) }

func found(slot int, value string) api.Result { return res(api.ResFound, slot, value) }

func none(slot int) api.Result { return res(api.ResNone, slot, "") }

func counted(n int) api.Result { return res(api.ResCount, n, "") }

var full = res(api.ResFull, 0, "")

func long(n int) string { return strings.Repeat("v", n) }

func entry(client, number int, op api.Op) api.Entry {
	return api.Entry{Client: client, Number: number, Op: op}
}

func entryOf(c api.Call) api.Entry { return entry(c.Client, c.Number, c.Op) }

// waits: a client's first request, which is not answered.
func waits(client int, op api.Op, begin int) api.Call {
	return api.Call{Client: client, Number: 1, Op: op, Begin: begin, End: -1}
}

// called: a client's first request, with its answer.
func called(client int, op api.Op, begin, end int, result api.Result) api.Call {
	return api.Call{Client: client, Number: 1, Op: op, Begin: begin, End: end, Result: result}
}

func numbered(number int, c api.Call) api.Call {
	c.Number = number
	return c
}

func calls(l ...api.Call) []api.Call { return l }

func asked(client, number int, op api.Op) api.Seen {
	return api.Seen{Kind: api.SeenAsked, Entry: entry(client, number, op)}
}

func reply(client, number int, result api.Result) api.Seen {
	return api.Seen{Kind: api.SeenReply, Entry: api.Entry{Client: client, Number: number}, Result: result}
}

// unanswered: the same call, to which no answer came.
func unanswered(c api.Call) api.Call {
	c.End, c.Result = -1, api.Result{}
	return c
}

// reads: so many reads of an empty ledger, one behind the other.
func reads(n int) []api.Call {
	var l []api.Call
	for i := range n {
		l = append(l, numbered(1+i/api.MaxClients, called(i%api.MaxClients, read(7), 2*i, 2*i+1, none(7))))
	}
	return l
}

// rightOps and wrongOps: at each end of what ledger.Check takes, and beyond it.
func rightOps() []api.Op {
	return []api.Op{write(0, ""), write(1023, long(64)), add(""), add(long(64)), read(0), read(1023), count}
}

func wrongOps() []api.Op {
	return []api.Op{
		{}, {Kind: -1}, {Kind: 5}, {Kind: math.MinInt}, {Kind: math.MaxInt}, {Kind: 1 + 1<<32},
		write(-1, "a"), write(1024, "a"), write(math.MaxInt, "a"), write(3, long(65)),
		{Kind: api.OpAppend, Slot: 1}, {Kind: api.OpAppend, Slot: -1}, add(long(65)),
		read(-1), read(1024), read(math.MinInt), {Kind: api.OpRead, Value: "x"},
		{Kind: api.OpCount, Slot: 1}, {Kind: api.OpCount, Slot: -1}, {Kind: api.OpCount, Value: "x"},
	}
}

func expectSearch(t *testing.T, l []api.Call, want ...int) {
	t.Helper()
	order, is, e := linear.Search(l)
	if e != api.OK || !is || !slices.Equal(order, want) {
		t.Fatalf("Search: %v, %v, %d, want %v: %+v", order, is, e, want, l)
	}
	expectHolds(t, l, order, -1)
	expectWorst(t, l, -1)
}

// expectNone: there is no witness, from that row on.
func expectNone(t *testing.T, l []api.Call, row int) {
	t.Helper()
	order, is, e := linear.Search(l)
	if e != api.OK || is || len(order) != 0 {
		t.Fatalf("Search: %v, %v, %d, want none: %+v", order, is, e, l)
	}
	expectWorst(t, l, row)
}

func expectWorst(t *testing.T, l []api.Call, want int) {
	t.Helper()
	if row, e := linear.Worst(l); e != api.OK || row != want {
		t.Fatalf("Worst: %d, %d, want %d: %+v", row, e, want, l)
	}
}

func expectHolds(t *testing.T, l []api.Call, order []int, want int) {
	t.Helper()
	if at, e := linear.Holds(l, order); e != api.OK || at != want {
		t.Fatalf("Holds of %v: %d, %d, want %d: %+v", order, at, e, want, l)
	}
}

func expectNoOrder(t *testing.T, l []api.Call, order ...int) {
	t.Helper()
	if at, e := linear.Holds(l, order); e != api.ErrWitness || at != 0 {
		t.Fatalf("Holds of %v: %d, %d, want ErrWitness: %+v", order, at, e, l)
	}
}

func expectCut(t *testing.T, l []api.Call, row int, want ...api.Call) {
	t.Helper()
	if got, e := linear.Cut(l, row); e != api.OK || !slices.Equal(got, want) {
		t.Fatalf("Cut at %d: %+v, %d, want %+v: %+v", row, got, e, want, l)
	}
}

func expectOrder(t *testing.T, l []api.Call, seq []api.Entry, want ...int) {
	t.Helper()
	if got, e := linear.Order(l, seq); e != api.OK || !slices.Equal(got, want) {
		t.Fatalf("Order: %v, %d, want %v: %+v, %+v", got, e, want, l, seq)
	}
}

func expectUnordered(t *testing.T, l []api.Call, seq ...api.Entry) {
	t.Helper()
	if got, e := linear.Order(l, seq); e != api.ErrWitness || len(got) != 0 {
		t.Fatalf("Order: %v, %d, want ErrWitness: %+v, %+v", got, e, l, seq)
	}
}

func expectSlot(t *testing.T, l []api.Call, slot int, want ...api.Call) {
	t.Helper()
	if got, e := linear.Slot(l, slot); e != api.OK || !slices.Equal(got, want) {
		t.Fatalf("Slot %d: %+v, %d, want %+v: %+v", slot, got, e, want, l)
	}
}

func expectCalls(t *testing.T, rows []api.Seen, want ...api.Call) {
	t.Helper()
	got, e := linear.Calls(rows)
	if e != api.OK || !slices.Equal(got, want) {
		t.Fatalf("Calls: %+v, %d, want %+v: %+v", got, e, want, rows)
	}
	if e := linear.Check(got); e != api.OK {
		t.Fatalf("they may not be: %d: %+v", e, got)
	}
}

func expectNoCalls(t *testing.T, want api.Errno, rows ...api.Seen) {
	t.Helper()
	if got, e := linear.Calls(rows); e != want || len(got) != 0 {
		t.Fatalf("Calls: %+v, %d, want %d: %+v", got, e, want, rows)
	}
}

func seeded(seed uint64) *rand.Rand { return rand.New(rand.NewPCG(seed, 18)) }

func pick[T any](r *rand.Rand, l ...T) T { return l[r.IntN(len(l))] }

// expectEnough: what was met in all draws of a test is not too little.
func expectEnough[K comparable](t *testing.T, met, least map[K]int) {
	t.Helper()
	for what, n := range least {
		if met[what] < n {
			t.Error("too few:", what, met)
		}
	}
}
