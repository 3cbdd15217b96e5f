package linear_test

import (
	"math"
	"math/rand/v2"
	"slices"
	"testing"

	"amnesia/api"
	"amnesia/linear"
)

// P18.2: Calls.

// others: a row of every kind that is passed over, and of such as are none, each with an entry as if it were asked or answered.
func others(client, number int, op api.Op) []api.Seen {
	var rows []api.Seen
	for _, k := range []api.SeenKind{api.SeenSent, api.SeenTaken, api.SeenDone, api.SeenLead, api.SeenDown, api.SeenUp, api.SeenBack, api.SeenTold, 0, -1, 11, math.MinInt, math.MaxInt, 1 + 1<<32} {
		rows = append(rows, api.Seen{Kind: k, Entry: entry(client, number, op), Result: written(7, "a")})
	}
	return rows
}

func TestCallsOfNoRows(t *testing.T) {
	expectCalls(t, nil)
	expectCalls(t, []api.Seen{})
	expectCalls(t, others(0, 1, count))
	expectCalls(t, others(-1, 0, write(-1, "")))
}

func TestCallsInTheOrderOfTheirAsking(t *testing.T) {
	rows := []api.Seen{
		asked(1, 4, write(7, "a")),
		asked(0, 1, count),
		reply(0, 1, counted(0)),
		asked(1, 5, read(7)),
		asked(0, 2, add("x")),
		reply(1, 5, found(7, "a")),
		reply(1, 4, written(7, "a")),
	}
	want := calls(
		api.Call{Client: 1, Number: 4, Op: write(7, "a"), Begin: 0, End: 6, Result: written(7, "a")},
		api.Call{Client: 0, Number: 1, Op: count, Begin: 1, End: 2, Result: counted(0)},
		api.Call{Client: 1, Number: 5, Op: read(7), Begin: 3, End: 5, Result: found(7, "a")},
		api.Call{Client: 0, Number: 2, Op: add("x"), Begin: 4, End: -1},
	)
	expectCalls(t, rows, want...)
	for n := range len(rows) + 1 {
		expectCalls(t, rows[:n], modelCut(want, n)...)
	}
}

// Rows that are passed over are counted all the same.
func TestCallsAmongOtherRows(t *testing.T) {
	between := others(2, 9, write(7, "a"))
	n := len(between)
	rows := slices.Concat(between, []api.Seen{asked(2, 9, write(7, "a"))}, between, []api.Seen{reply(2, 9, written(7, "a"))}, between)
	expectCalls(t, rows, numbered(9, called(2, write(7, "a"), n, 2*n+1, written(7, "a"))))
	rows = slices.Concat(between, []api.Seen{asked(2, 9, write(7, "a"))}, between)
	expectCalls(t, rows, numbered(9, waits(2, write(7, "a"), n)))
}

// What the two kinds do not use is not looked at; whatever the Result, it is the answer.
func TestCallsOfStrangeRows(t *testing.T) {
	for _, result := range []api.Result{{}, res(api.ResRefused, 0, ""), res(-7, -7, long(100)), written(7, "a")} {
		a, b := asked(3, 2, read(1)), reply(3, 2, result)
		a.Event, a.Node, a.View, a.Place, a.Result, a.Draw = 55, -1, -1, -1, taken(1, "z"), api.Draw{Hi: 1}
		a.Log, a.Packet = []api.Entry{entry(9, 9, count)}, api.Packet{From: -1, To: -1, Bytes: []byte("x")}
		b.Event, b.Node, b.View, b.Place, b.Entry.Op, b.Draw = -55, 99, -1, -1, write(-3, long(99)), api.Draw{Hi: 1}
		b.Log, b.Packet = a.Log, a.Packet
		expectCalls(t, []api.Seen{a, b}, numbered(2, called(3, read(1), 0, 1, result)))
	}
}

func TestAskedThatMayNotBe(t *testing.T) {
	for _, client := range []int{math.MinInt, -1, 16, math.MaxInt} {
		expectNoCalls(t, api.ErrCalls, asked(client, 1, count))
		expectNoCalls(t, api.ErrCalls, asked(0, 1, count), reply(0, 1, counted(0)), asked(client, 1, count))
	}
	for _, number := range []int{math.MinInt, -1, 0} {
		expectNoCalls(t, api.ErrCalls, asked(0, number, count))
		expectNoCalls(t, api.ErrCalls, asked(0, 1, count), asked(0, number, count), asked(0, 2, count))
	}
	for _, op := range wrongOps() {
		expectNoCalls(t, api.ErrCalls, asked(0, 1, op))
		expectNoCalls(t, api.ErrCalls, asked(0, 1, count), asked(1, 1, op))
	}
	for _, op := range rightOps() {
		expectCalls(t, []api.Seen{asked(0, api.MaxNumber, op), asked(15, 1, op)}, numbered(api.MaxNumber, waits(0, op, 0)), waits(15, op, 1))
	}
}

func TestAskedTwice(t *testing.T) {
	for _, op := range rightOps() {
		expectNoCalls(t, api.ErrRow, asked(1, 3, count), asked(1, 3, op))
		expectNoCalls(t, api.ErrRow, asked(1, 3, count), reply(1, 3, counted(0)), asked(1, 3, op))
		expectNoCalls(t, api.ErrRow, asked(1, 3, count), asked(1, 4, count), asked(3, 3, count), asked(1, 3, op))
	}
	for _, far := range []int{1 << 8, 1 << 16, 1 << 31, 1 << 32, 1 << 62} {
		rows := []api.Seen{asked(1, 3, count), asked(1, 3+far, count), reply(1, 3+far, counted(1)), reply(1, 3, counted(0))}
		expectCalls(t, rows, numbered(3, called(1, count, 0, 3, counted(0))), numbered(3+far, called(1, count, 1, 2, counted(1))))
	}
	for _, op := range wrongOps() {
		expectNoCalls(t, api.ErrCalls, asked(1, 3, count), asked(1, 3, op)) // of two faults of one row the first
	}
}

func TestReplyToNothing(t *testing.T) {
	expectNoCalls(t, api.ErrRow, reply(1, 3, counted(0)))
	expectNoCalls(t, api.ErrRow, reply(1, 3, counted(0)), asked(1, 3, count)) // ahead of it
	expectNoCalls(t, api.ErrRow, reply(1, 3, counted(0)), asked(1, 3, count), reply(1, 3, counted(0)))
	for _, other := range [][2]int{{0, 3}, {3, 1}, {1, 2}, {1, 4}, {-1, 3}, {16, 3}, {1, 0}, {1, -3}, {math.MaxInt, math.MaxInt}} {
		expectNoCalls(t, api.ErrRow, asked(1, 3, count), reply(other[0], other[1], counted(0)))
		expectNoCalls(t, api.ErrRow, asked(1, 3, count), reply(1, 3, counted(0)), reply(other[0], other[1], counted(0)))
	}
}

func TestReplyTwice(t *testing.T) {
	for _, again := range []api.Result{{}, counted(0), counted(1)} {
		expectNoCalls(t, api.ErrRow, asked(1, 3, count), reply(1, 3, counted(0)), reply(1, 3, again))
		expectNoCalls(t, api.ErrRow, asked(1, 3, count), reply(1, 3, again), asked(0, 1, count), reply(0, 1, counted(0)), reply(1, 3, counted(0)))
	}
}

// The first wrong row, whatever comes behind it.
func TestTheFirstWrongRow(t *testing.T) {
	well := []api.Seen{asked(1, 3, count), reply(1, 3, counted(0))}
	wrong := map[api.Errno][]api.Seen{
		api.ErrCalls: {asked(-1, 1, count), asked(0, 0, count), asked(0, 1, read(-1)), asked(1, 3, read(-1))},
		api.ErrRow:   {asked(1, 3, count), reply(1, 3, counted(0)), reply(9, 9, counted(0))},
	}
	for e, first := range wrong {
		for _, second := range wrong {
			for _, a := range first {
				for _, b := range second {
					expectNoCalls(t, e, slices.Concat(well, []api.Seen{a, asked(2, 2, count), b})...)
				}
			}
		}
	}
}

// someRows: rows such as a run might have, some of them wrong.
func someRows(r *rand.Rand) []api.Seen {
	var rows []api.Seen
	wrong := pick(r, 0, 0, 20, 60) // out of 1000
	var open []api.Entry
	numbers := [3]int{1, 1, 100}
	for range r.IntN(40) {
		client := r.IntN(3)
		switch k := r.IntN(10); {
		case r.IntN(1000) < wrong:
			rows = append(rows, pick(r, asked(client, 1+r.IntN(4), count), asked(pick(r, -1, 16), 1, count), asked(client, pick(r, 0, -1), count),
				asked(client, 50, pick(r, wrongOps()...)), reply(client, 1+r.IntN(4), none(1)), reply(pick(r, -1, 16), 1, none(1))))
		case k < 3:
			e := entry(client, numbers[client], anyOp(r))
			open, numbers[client] = append(open, e), numbers[client]+1
			rows = append(rows, asked(e.Client, e.Number, e.Op))
		case k < 6 && len(open) > 0:
			i := r.IntN(len(open))
			rows = append(rows, reply(open[i].Client, open[i].Number, pick(r, written(1, "a"), none(1), api.Result{})))
			open = slices.Delete(open, i, i+1)
		default:
			rows = append(rows, pick(r, others(client, 1, count)...))
		}
	}
	return rows
}

func TestAnyRows(t *testing.T) {
	t.Parallel()
	met := make(map[api.Errno]int)
	for seed := range uint64(5000) {
		rows := someRows(seeded(10000 + seed))
		want, e := modelCalls(rows)
		met[e]++
		if e != api.OK {
			expectNoCalls(t, e, rows...)
			continue
		}
		expectCalls(t, rows, want...)
		for n := range rows {
			got, _ := linear.Calls(rows[:n])
			expectCut(t, want, n, got...)
		}
	}
	expectEnough(t, met, map[api.Errno]int{api.OK: 1000, api.ErrCalls: 200, api.ErrRow: 200})
}

func TestManyRows(t *testing.T) {
	var rows []api.Seen
	var want []api.Call
	const many = 100000
	for i := range many {
		rows = append(rows, asked(i%16, 1+i/16, read(i%1024)))
		want = append(want, numbered(1+i/16, called(i%16, read(i%1024), i, 2*many-1-i, none(i%1024))))
	}
	for i := range many {
		c := want[many-1-i]
		rows = append(rows, reply(c.Client, c.Number, c.Result))
	}
	expectCalls(t, rows, want...)
}
