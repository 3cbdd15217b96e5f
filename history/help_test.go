package history_test

import (
	"errors"
	"math"
	"math/rand/v2"
	"slices"
	"testing"

	"amnesia/api"
	"amnesia/history"
	"amnesia/message"
)

// The chapter's group, and greater ones.
var (
	three = api.Config{F: 1, Room: 4, Patience: 6}
	five  = api.Config{F: 2, Room: 6, Patience: 9}
	seven = api.Config{F: 3, Room: 256, Patience: 100}
)

func configs() []api.Config {
	return []api.Config{three, five, seven, {F: 1, Room: 1, Patience: 7, Unguarded: true}}
}

// Configurations that may not be, each for one reason.
func wrongConfigs() []api.Config {
	return []api.Config{
		{}, {F: 0, Room: 6, Patience: 9}, {F: 4, Room: 6, Patience: 9}, {F: -1, Room: 6, Patience: 9},
		{F: 2, Room: 0, Patience: 9}, {F: 2, Room: 257, Patience: 9}, {F: 2, Room: -6, Patience: 9},
		{F: 2, Room: 6, Patience: 5}, {F: 2, Room: 6, Patience: 101}, {F: 2, Room: 6, Patience: -9, Unguarded: true},
		{F: math.MinInt, Room: 6, Patience: 9}, {F: math.MaxInt, Room: 6, Patience: 9},
	}
}

// farNumbers: numbers at their ends, and such as are a replica's modulo a power of two.
var farNumbers = []int{math.MinInt, math.MinInt + 1, -1 << 32, -2, -1, 7, 8, 1 << 32, 1<<32 + 1, math.MaxInt - 1, math.MaxInt}

// setupOf: a group with so many clients.
func setupOf(c api.Config, clients int) api.Setup {
	return api.Setup{Config: c, Clients: make([]api.ClientSetup, clients)}
}

var setup = setupOf(three, 2)

func write(slot int, value string) api.Op {
	return api.Op{Kind: api.OpWrite, Slot: slot, Value: value}
}

func add(value string) api.Op { return api.Op{Kind: api.OpAppend, Value: value} }

func read(slot int) api.Op { return api.Op{Kind: api.OpRead, Slot: slot} }

var count = api.Op{Kind: api.OpCount}

func entry(client, number int, op api.Op) api.Entry {
	return api.Entry{Client: client, Number: number, Op: op}
}

// The chapter's entries, and two more.
var (
	eE = entry(0, 1, write(7, "a"))
	eG = entry(1, 1, write(7, "b"))
	eH = entry(0, 2, read(7))
	eI = entry(1, 2, add("x"))
)

func res(code, slot int, value string) api.Result {
	return api.Result{Code: code, Slot: slot, Value: value}
}

func lo(n uint64) api.Draw { return api.Draw{Lo: n} }

// The rows, by what each uses.

func asked(e api.Entry) api.Seen { return api.Seen{Kind: api.SeenAsked, Entry: e} }

func sent(p api.Packet) api.Seen { return api.Seen{Kind: api.SeenSent, Packet: p} }

func taken(p api.Packet) api.Seen { return api.Seen{Kind: api.SeenTaken, Packet: p} }

func done(node, view, place int, e api.Entry) api.Seen {
	return api.Seen{Kind: api.SeenDone, Node: node, View: view, Place: place, Entry: e}
}

func lead(node, view int, log ...api.Entry) api.Seen {
	return api.Seen{Kind: api.SeenLead, Node: node, View: view, Log: log}
}

func reply(client, number int, result api.Result) api.Seen {
	return api.Seen{Kind: api.SeenReply, Entry: api.Entry{Client: client, Number: number}, Result: result}
}

func down(node int) api.Seen { return api.Seen{Kind: api.SeenDown, Node: node} }

func up(node int, d api.Draw) api.Seen { return api.Seen{Kind: api.SeenUp, Node: node, Draw: d} }

func back(node, view int, log ...api.Entry) api.Seen {
	return api.Seen{Kind: api.SeenBack, Node: node, View: view, Log: log}
}

// toldOf: of a client's first query.
func toldOf(client, place int, op api.Op, result api.Result) api.Seen {
	return api.Seen{Kind: api.SeenTold, Place: place, Entry: entry(client, 1, op), Result: result}
}

func rowsOf(pieces ...[]api.Seen) []api.Seen { return slices.Concat(pieces...) }

// askedAll: each entry asked for, and carried out by replica 0 in that view, in their order.
func askedAll(view int, l ...api.Entry) []api.Seen {
	var rows []api.Seen
	for i, e := range l {
		rows = append(rows, asked(e), done(0, view, i+1, e))
	}
	return slices.Clip(rows) // what is laid behind them is new each time
}

func frame(t *testing.T, c api.Config, m api.Msg) []byte {
	t.Helper()
	b, e := message.Encode(c, m)
	if e != api.OK {
		t.Fatalf("the test's own message may not be: %d: %+v", e, m)
	}
	return b
}

// recovery: a frame that a replica sends which starts again.
func recovery(t *testing.T, c api.Config, node int, d api.Draw) []byte {
	t.Helper()
	v := make(api.Vector, 2*c.F+1)
	v[node] = d
	return frame(t, c, api.Msg{Kind: api.KindRecovery, Node: node, Draw: d, Vector: v})
}

// commit: a frame of another kind, by the primary of view 0.
func commit(t *testing.T, c api.Config) []byte {
	t.Helper()
	return frame(t, c, api.Msg{Kind: api.KindCommit, Vector: make(api.Vector, 2*c.F+1)})
}

// whys: the eleven variables.
func whys() []error {
	return []error{history.ErrRows, history.ErrUnasked, history.ErrAgain, history.ErrParted, history.ErrGap, history.ErrReply,
		history.ErrForgot, history.ErrLead, history.ErrLogs, history.ErrSpoke, history.ErrRead}
}

// expectWhy: an answer of Verify is nil, or a *Broken of that row and that variable alone.
func expectWhy(t *testing.T, got error, row int, why error) {
	t.Helper()
	for _, w := range whys() {
		if errors.Is(got, w) != (w == why) {
			t.Fatalf("errors.Is of %v and %v", got, w)
		}
	}
	var b *history.Broken
	switch is := errors.As(got, &b); {
	case why == nil && (got != nil || is):
		t.Fatalf("%v, want nil", got)
	case why != nil && (!is || b == nil || got != error(b) || b.Row != row || b.Why != why):
		t.Fatalf("%v, want row %d: %v", got, row, why)
	}
}

// expect: what Judge and Verify answer: a fault and why it is one (-1 and nil: none), and the sequence ahead of it.
func expect(t *testing.T, s api.Setup, rows []api.Seen, fault int, why error, sequence ...api.Entry) {
	t.Helper()
	j, e := history.Judge(s, rows)
	if e != api.OK || j.Fault != fault || !slices.Equal(j.Sequence, sequence) {
		t.Fatalf("%+v, %d, want fault %d and %+v: %+v", j, e, fault, sequence, rows)
	}
	expectWhy(t, history.Verify(s, rows), fault, why)
}

// expectLast: all rows are well but the last, which is a fault for that reason; none is, if it is nil. The sequence is not asked here.
func expectLast(t *testing.T, s api.Setup, rows []api.Seen, why error) {
	t.Helper()
	fault := len(rows) - 1
	if why == nil {
		fault = -1
	}
	if j, e := history.Judge(s, rows); e != api.OK || j.Fault != fault {
		t.Fatalf("%+v, %d, want fault %d: %+v", j, e, fault, rows)
	}
	expectWhy(t, history.Verify(s, rows), fault, why)
}

// expectRefused: both calls over a setup answer an error.
func expectRefused(t *testing.T, s api.Setup, rows []api.Seen, want api.Errno) {
	t.Helper()
	if j, e := history.Judge(s, rows); e != want || j.Fault != 0 || len(j.Sequence) != 0 {
		t.Fatalf("%+v, %d, want %d: %+v, %+v", j, e, want, s, rows)
	}
	expectWhy(t, history.Verify(s, rows), -1, history.ErrRows)
}

func premise(few, fresh, genuine int) api.Premise {
	return api.Premise{Few: few, Fresh: fresh, Genuine: genuine}
}

func expectPremises(t *testing.T, c api.Config, rows []api.Seen, want api.Premise) {
	t.Helper()
	if got, e := history.Premises(c, rows); e != api.OK || got != want {
		t.Fatalf("%+v, %d, want %+v: %+v", got, e, want, rows)
	}
}

func seeded(seed uint64) *rand.Rand { return rand.New(rand.NewPCG(seed, 16)) }

func pick[T any](r *rand.Rand, l ...T) T { return l[r.IntN(len(l))] }

// expectEnough: what was met in all runs of a test is not too little.
func expectEnough[K comparable](t *testing.T, met, least map[K]int) {
	t.Helper()
	for what, n := range least {
		if met[what] < n {
			t.Error("too few:", what, met)
		}
	}
}
