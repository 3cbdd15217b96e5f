package history_test

import (
	"math"
	"testing"

	"amnesia/api"
	"amnesia/history"
	"amnesia/message"
)

// P16.2: Back, Reply, Sent, Told, and what is never a fault.

func TestForgot(t *testing.T) {
	two := askedAll(0, eE, eG)
	third := []api.Seen{asked(eH), done(0, 0, 3, eH)}
	for _, x := range []struct {
		rows []api.Seen
		need int // so many of E, G and H the log must have
	}{
		{rowsOf(two, third), 0}, // no Up at all
		{rowsOf(two, third, []api.Seen{down(2)}), 0},
		{rowsOf([]api.Seen{up(2, lo(1))}, two, third), 0},
		{rowsOf(two, []api.Seen{up(2, lo(1))}, third), 2},
		{rowsOf(two, third, []api.Seen{up(2, lo(1))}), 3},
		{rowsOf([]api.Seen{up(2, lo(1))}, two, []api.Seen{up(2, lo(2))}, third), 2}, // the last counts
		{rowsOf(two, []api.Seen{up(2, lo(1)), down(2)}, third, []api.Seen{up(2, lo(2))}), 3},
		{rowsOf(two, []api.Seen{up(1, lo(1)), up(0, lo(1))}, third), 0}, // others' count for nothing
		{rowsOf(two, []api.Seen{up(2, lo(1))}, third, []api.Seen{up(1, lo(1))}), 2},
		{rowsOf(two, []api.Seen{up(2, lo(1)), down(2)}, third), 2}, // an Up stays the last one
		{rowsOf(two, []api.Seen{up(2, lo(1)), back(2, 0, eE, eG)}, third), 2},
		{rowsOf(two, []api.Seen{up(2, lo(1)), back(2, 0, eE, eG), down(2)}, third, []api.Seen{up(2, lo(2))}), 3},
	} {
		all := []api.Entry{eE, eG, eH}
		for _, y := range []struct {
			log []api.Entry
			has int // so many of its first entries are the sequence's
		}{
			{nil, 0}, {[]api.Entry{eE}, 1}, {[]api.Entry{eE, eG}, 2}, {all, 3}, {append(all[:3:3], eI), 3},
			{[]api.Entry{eG, eE, eH}, 0}, {[]api.Entry{eE, eI, eH}, 1}, {[]api.Entry{eE, eG, eI}, 2}, {[]api.Entry{eI}, 0}, {[]api.Entry{eE, eG, eI, eH}, 2},
		} {
			var why error
			if y.has < x.need {
				why = history.ErrForgot
			}
			for _, view := range []int{0, 5, math.MinInt, math.MaxInt} {
				expectLast(t, setup, append(rowsOf(x.rows), back(2, view, y.log...)), why)
			}
		}
	}
}

func TestReply(t *testing.T) {
	e := entry(1, 9, add("c"))
	sequence := []api.Entry{eE, eG, entry(0, 2, read(7)), entry(0, 3, read(8)), e, entry(1, 10, count), entry(2, 1, write(1023, "")), entry(2, 2, add("z")), entry(2, 3, api.Op{Kind: 9})}
	right := []api.Result{
		res(api.ResWritten, 7, "a"), res(api.ResTaken, 7, "a"), res(api.ResFound, 7, "a"), res(api.ResNone, 8, ""), res(api.ResWritten, 8, "c"),
		res(api.ResCount, 2, ""), res(api.ResWritten, 1023, ""), res(api.ResFull, 0, ""), {},
	}
	rows := askedAll(0, sequence...)
	for i, e := range sequence {
		for code := range 9 {
			for _, r := range append(right, res(code, 7, "a"), res(code, 0, ""), res(code-4, 8, "c"), res(code, right[i].Slot, right[i].Value), res(right[i].Code, right[i].Slot+code, right[i].Value), res(right[i].Code, right[i].Slot, "y")) {
				var why error
				if r != right[i] {
					why = history.ErrReply
				}
				expectLast(t, setup, append(rowsOf(rows), reply(e.Client, e.Number, r)), why)
			}
		}
		again := append(rowsOf(rows), reply(e.Client, e.Number, right[i]), reply(e.Client, e.Number, right[i]))
		expectLast(t, setup, again, nil)
	}
	expectLast(t, setup, append(rowsOf(rows), reply(0, 1, res(api.ResRefused, 0, ""))), history.ErrReply) // the ledger never refuses
}

func TestReplyToWhatDoesNotStand(t *testing.T) {
	written := res(api.ResWritten, 7, "a")
	op := eE.Op
	for _, rows := range [][]api.Seen{
		nil,
		{asked(eE)},                        // asked, but not carried out
		{lead(0, 0, eE), asked(eE)},        // a log is no sequence
		append(askedAll(0, eG), asked(eE)), // another one is carried out
		// Another number, another client.
		askedAll(0, entry(0, 2, op)), askedAll(0, entry(0, 0, op)), askedAll(0, entry(0, -1, op)), askedAll(0, entry(0, 1<<32+1, op)), askedAll(0, entry(0, math.MaxInt, op)),
		askedAll(0, entry(1, 1, op)), askedAll(0, entry(1, 0, op)), askedAll(0, entry(-1, 1, op)), askedAll(0, entry(16, 1, op)), askedAll(0, entry(1<<32, 1, op)),
	} {
		expectLast(t, setup, append(rowsOf(rows), reply(0, 1, written)), history.ErrReply)
	}
	expectLast(t, setup, append(askedAll(0, eE), reply(0, 1, written)), nil)
	// It does not matter that it is carried out later.
	expect(t, setup, []api.Seen{asked(eE), reply(0, 1, written), done(0, 0, 1, eE)}, 1, history.ErrReply)
	// Nor what stands in Op.
	row := reply(0, 1, written)
	row.Entry.Op = count
	expectLast(t, setup, append(askedAll(0, eE), row), nil)
}

func TestSpoke(t *testing.T) {
	for _, c := range configs() {
		n, s := 2*c.F+1, setupOf(c, 1)
		recovers, other := recovery(t, c, n-1, lo(5)), commit(t, c)
		spoilt := append([]byte(nil), recovers...)
		spoilt[len(spoilt)-1] ^= 1
		frames := []struct {
			bytes []byte
			well  bool
		}{{recovers, true}, {recovery(t, c, 0, lo(7)), true}, {other, false}, {spoilt, false}, {nil, false}, {[]byte{}, false}, {[]byte("x"), false}}
		for _, x := range []struct {
			ahead    []api.Seen
			recovers bool
		}{
			{nil, false}, {[]api.Seen{down(n - 1)}, false}, {[]api.Seen{up(n-1, lo(5))}, true}, {[]api.Seen{up(n-1, lo(5)), back(n-1, 0)}, false},
			{[]api.Seen{up(n-1, lo(5)), down(n - 1)}, false}, {[]api.Seen{down(n - 1), up(n-1, lo(5)), back(n-1, 0), up(n-1, lo(6))}, true},
			{[]api.Seen{up(n-1, lo(5)), back(0, 0), down(1)}, true}, {[]api.Seen{up(n-2, lo(5))}, false}, {[]api.Seen{up(n-1, lo(5)), asked(eE)}, true},
			{[]api.Seen{up(n-1, lo(0))}, true},
		} {
			for _, f := range frames {
				var why error
				if x.recovers && !f.well {
					why = history.ErrSpoke
				}
				for _, to := range []int{0, 1, n - 1, api.MaxNodes, math.MinInt, math.MaxInt} {
					expectLast(t, s, append(rowsOf(x.ahead), sent(api.Packet{From: n - 1, To: to, Bytes: f.bytes})), why)
				}
				expectLast(t, s, append(rowsOf(x.ahead), taken(api.Packet{From: n - 1, To: 0, Bytes: f.bytes})), nil)
			}
		}
	}
}

// By a client, and by nobody: nothing that is sent is a fault.
func TestSentByOthers(t *testing.T) {
	for _, c := range configs() {
		var rows []api.Seen
		for node := range 2*c.F + 1 {
			rows = append(rows, up(node, lo(1)))
		}
		for _, from := range append([]int{2*c.F + 1, 6, api.MaxNodes, api.MaxNodes + 1, api.MaxNodes + 15, 23}, farNumbers...) {
			if from < 2*c.F+1 && from >= 0 {
				continue
			}
			for _, bytes := range [][]byte{nil, []byte("x"), commit(t, c), recovery(t, c, 0, lo(1))} {
				expectLast(t, setupOf(c, 1), append(rowsOf(rows), sent(api.Packet{From: from, To: 0, Bytes: bytes})), nil)
			}
		}
	}
}

// Each kind of messages by one that recovers: Recovery alone is none.
func TestSpokeOfEachKind(t *testing.T) {
	v := make(api.Vector, 3)
	met := 0
	for _, m := range []api.Msg{
		{Kind: api.KindRequest, Entry: eE}, {Kind: api.KindReply, Place: 1, Entry: entry(0, 1, api.Op{}), Result: res(api.ResCount, 1, "")},
		{Kind: api.KindPrepare, Place: 1, Entry: eE, Vector: v}, {Kind: api.KindPrepareOK, Node: 1, Vector: v}, {Kind: api.KindCommit, Vector: v},
		{Kind: api.KindStartViewChange, View: 1, Vector: v}, {Kind: api.KindDoViewChange, View: 1, Vector: v}, {Kind: api.KindStartView, Node: 1, View: 1, Vector: v},
		{Kind: api.KindRecovery, Node: 1, Draw: lo(1), Vector: api.Vector{{}, lo(1), {}}}, {Kind: api.KindRecoveryResponse, Draw: lo(1), Vector: v},
		{Kind: api.KindGetState, Vector: v}, {Kind: api.KindNewState, Vector: v}, {Kind: api.KindQuery, Entry: entry(0, 1, count)},
		{Kind: api.KindTold, Entry: entry(0, 1, api.Op{}), Result: res(api.ResCount, 1, "")},
	} {
		b, e := message.Encode(three, m)
		if e != api.OK {
			t.Fatalf("the test's own message may not be: %d: %+v", e, m)
		}
		var why error = history.ErrSpoke
		if m.Kind == api.KindRecovery {
			why = nil
		}
		expectLast(t, setup, []api.Seen{up(1, lo(1)), sent(api.Packet{From: 1, To: 0, Bytes: b})}, why)
		met++
	}
	if met != 14 {
		t.Fatal(met)
	}
}

func TestToldPlaces(t *testing.T) {
	rows := askedAll(0, eE, eI, eG) // 7 "a", then 8 "x"
	counts := []int{0, 1, 2, 2}
	for _, place := range []int{math.MinInt, -1, 0, 1, 2, 3, 4, 5, 1 << 32, 1<<32 + 1, math.MaxInt} {
		for n := range 4 {
			var why error = history.ErrRead
			if place >= 0 && place <= 3 && n == counts[place] {
				why = nil
			}
			expectLast(t, setup, append(rowsOf(rows), toldOf(5, place, count, res(api.ResCount, n, ""))), why)
		}
	}
	expectLast(t, setup, []api.Seen{toldOf(0, 0, count, res(api.ResCount, 0, ""))}, nil) // behind no sequence at all
	expectLast(t, setup, []api.Seen{toldOf(0, 1, count, res(api.ResCount, 0, ""))}, history.ErrRead)
	// The sequence is what it is at that row.
	expect(t, setup, append([]api.Seen{toldOf(0, 1, count, res(api.ResCount, 1, ""))}, rows...), 0, history.ErrRead)
}

// Each kind of operations, right and wrong; what a Told does, it does to no ledger.
func TestToldResults(t *testing.T) {
	rows := askedAll(0, eE, eI)
	for _, x := range []struct {
		op   api.Op
		want [3]api.Result // by place
	}{
		{read(7), [3]api.Result{res(api.ResNone, 7, ""), res(api.ResFound, 7, "a"), res(api.ResFound, 7, "a")}},
		{read(8), [3]api.Result{res(api.ResNone, 8, ""), res(api.ResNone, 8, ""), res(api.ResFound, 8, "x")}},
		{count, [3]api.Result{res(api.ResCount, 0, ""), res(api.ResCount, 1, ""), res(api.ResCount, 2, "")}},
		{write(8, "w"), [3]api.Result{res(api.ResWritten, 8, "w"), res(api.ResWritten, 8, "w"), res(api.ResTaken, 8, "x")}},
		{add("w"), [3]api.Result{res(api.ResWritten, 0, "w"), res(api.ResWritten, 8, "w"), res(api.ResWritten, 9, "w")}},
		{read(1024), [3]api.Result{}}, {api.Op{}, [3]api.Result{}}, {api.Op{Kind: api.OpCount, Slot: 1}, [3]api.Result{}},
	} {
		for place, want := range x.want {
			for _, wrong := range []api.Result{{}, res(want.Code+1, want.Slot, want.Value), res(want.Code, want.Slot+1, want.Value), res(want.Code, want.Slot, want.Value+"y"), res(api.ResRefused, 0, "")} {
				if wrong != want {
					expectLast(t, setup, append(rowsOf(rows), toldOf(0, place, x.op, wrong)), history.ErrRead)
				}
			}
			behind := append(rowsOf(rows), toldOf(0, place, x.op, want), toldOf(0, place, x.op, want), toldOf(0, 2, count, res(api.ResCount, 2, "")), reply(1, 2, res(api.ResWritten, 8, "x")))
			behind = append(behind, asked(eG), done(0, 0, 3, eG), asked(entry(0, 3, add("v"))), done(0, 0, 4, entry(0, 3, add("v"))), reply(0, 3, res(api.ResWritten, 9, "v")))
			expectLast(t, setup, behind, nil)
		}
	}
}

// For one client the places never go back.
func TestToldGoesOn(t *testing.T) {
	rows := askedAll(0, eE, eI, eG)
	counts := []int{0, 1, 2, 2}
	tells := func(client, place int) api.Seen {
		return toldOf(client, place, count, res(api.ResCount, counts[place], ""))
	}
	for first := range 4 {
		for second := range 4 {
			var why error
			if second < first {
				why = history.ErrRead
			}
			expectLast(t, setup, append(rowsOf(rows), tells(0, first), tells(0, second)), why)
			expectLast(t, setup, append(rowsOf(rows), tells(0, first), tells(1, 0), tells(0, second)), why)
			expectLast(t, setup, append(rowsOf(rows), tells(0, first), tells(1, second)), nil) // another client
			expectLast(t, setup, append(rowsOf(rows), tells(0, 0), tells(0, first), tells(0, second)), why)
			row := tells(0, second)
			row.Entry.Number = 77 // whichever query it was
			row.Node = 2          // whoever told it
			expectLast(t, setup, append(rowsOf(rows), tells(0, first), row), why)
		}
	}
}

// Nor below that of an answer that it had before.
func TestToldBehindAReply(t *testing.T) {
	rows := askedAll(0, eE, eI, eG, eH)
	counts := []int{0, 1, 2, 2, 2}
	answers := []api.Seen{reply(0, 1, res(api.ResWritten, 7, "a")), reply(1, 2, res(api.ResWritten, 8, "x")), reply(1, 1, res(api.ResTaken, 7, "a")), reply(0, 2, res(api.ResFound, 7, "a"))}
	for i, answer := range answers {
		for place := range 5 {
			for client := range 3 {
				told := toldOf(client, place, count, res(api.ResCount, counts[place], ""))
				var why error
				if client == answer.Entry.Client && place < i+1 {
					why = history.ErrRead
				}
				expectLast(t, setup, append(rowsOf(rows), answer, told), why)
				expectLast(t, setup, append(rowsOf(rows), told, answer), nil) // a reading ahead of it knows nothing of it
				// An answer to what stands further ahead takes nothing back.
				if client == 0 {
					late := append(rowsOf(rows), answers[3], answers[0], told)
					why = history.ErrRead
					if place >= 4 {
						why = nil
					}
					expectLast(t, setup, late, why)
				}
			}
		}
	}
}

// Asked, Taken, Down and Up never are a fault, whatever is in them.
func TestNeverAFault(t *testing.T) {
	for _, n := range farNumbers {
		for _, k := range []api.SeenKind{api.SeenAsked, api.SeenTaken, api.SeenDown, api.SeenUp} {
			row := api.Seen{Kind: k, Event: n, View: n, Place: n, Draw: api.Draw{Hi: uint64(n), Lo: uint64(n)}, Entry: entry(n, n, api.Op{Kind: n, Slot: n}),
				Result: res(n, n, "x"), Log: []api.Entry{eE, eE}, Packet: api.Packet{From: 1, To: n, Bytes: []byte("x")}}
			row.Node = 1
			expect(t, setup, rowsOf(askedAll(0, eE), []api.Seen{row, row, done(1, 0, 1, eE), row}), -1, nil, eE)
		}
	}
}

// The first fault counts, whatever stands behind it.
func TestTheFirstFaultCounts(t *testing.T) {
	faults := []struct {
		row api.Seen
		why error
	}{
		{done(0, 0, 9, eE), history.ErrGap}, {done(0, 0, 1, eG), history.ErrParted}, {done(0, 0, 2, eG), history.ErrUnasked}, {done(0, 0, 2, eE), history.ErrAgain},
		{lead(1, 1), history.ErrLead}, {lead(2, 2, eE), history.ErrLogs}, {back(2, 0), history.ErrForgot}, {reply(0, 1, api.Result{}), history.ErrReply},
		{sent(api.Packet{From: 2}), history.ErrSpoke}, {toldOf(0, 9, count, api.Result{}), history.ErrRead},
	}
	ahead := append(askedAll(0, eE), lead(2, 2, eE), up(2, lo(1)))
	for _, first := range faults {
		for _, second := range faults {
			rows := append(rowsOf(ahead), first.row, asked(eH), second.row, done(0, 5, 2, eH), first.row)
			expect(t, setup, rows, len(ahead), first.why, eE)
		}
	}
}
