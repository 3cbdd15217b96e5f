package normal_test

import (
	"math"
	"math/rand/v2"
	"testing"

	"amnesia/api"
	"amnesia/client"
	"amnesia/normal"
	"amnesia/oplog"
)

// P10.1: Request. aPrimary has entries of the clients 0, 5, 10, 15 and 4 (numbers 1 to 5), of which two are carried out.

func TestRequestThatIsFresh(t *testing.T) {
	s := aPrimary()
	for _, m := range []api.Msg{
		request(9, 3, write(3, "n")),                              // a client without entries
		request(9, 1, read(0)),                                    // the least number
		request(9, math.MaxInt, count),                            // the greatest number
		request(0, 2, write(7, "a")),                              // above one that is carried out
		request(4, 6, api.Op{Kind: api.OpAppend}),                 // above one that is pending
		request(15, math.MaxInt, api.Op{Kind: api.OpAppend}),      // the last client
		request(5, 100, api.Op{Kind: api.OpAppend, Value: "abc"}), // numbers may be left out
	} {
		behind := changed(s, func(s *api.State) { s.Log = append(s.Log, m.Entry) })
		expect(t, "fresh", five, s, m, behind, toAll(5, s, api.Msg{Kind: api.KindPrepare, View: 6, Entry: m.Entry, Place: 6, Commit: 2})...)
	}
}

func TestRequestThatIsDone(t *testing.T) {
	s := aPrimary()
	for place, e := range []api.Entry{{Client: 0, Number: 1}, {Client: 5, Number: 2}} {
		reply := from(s, 7+e.Client, api.Msg{Kind: api.KindReply, View: 6, Place: place + 1, Entry: e, Result: resultsOfLog[place]})
		// What the client asks for now does not matter: the request of that number is carried out.
		for _, op := range []api.Op{s.Log[place].Op, read(0), count, write(3, "other")} {
			expect(t, "done", five, s, request(e.Client, e.Number, op), s, reply)
		}
	}
	last := changed(s, func(s *api.State) { s.Commit = 5 })
	reply := from(last, 11, api.Msg{Kind: api.KindReply, View: 6, Place: 5, Entry: api.Entry{Client: 4, Number: 5}, Result: resultsOfLog[4]})
	expect(t, "the last place", five, last, request(4, 5, read(7)), last, reply)
}

func TestRequestThatIsPendingOrOld(t *testing.T) {
	s := aPrimary()
	for _, m := range []api.Msg{
		request(10, 3, s.Log[2].Op), request(15, 4, s.Log[3].Op), request(4, 5, s.Log[4].Op), // in the log, behind Commit
		request(4, 5, write(3, "other")),
		request(5, 1, write(7, "b")), request(4, 4, read(7)), request(4, 1, read(7)), // below the client's greatest
	} {
		expectNothing(t, "pending or old", five, s, m)
	}
	// Of a client with two entries the later one counts.
	s.Log[4] = api.Entry{Client: 0, Number: 5, Op: read(7)}
	expectNothing(t, "old, though carried out", five, s, request(0, 1, write(7, "a")))
	expectNothing(t, "old, in between", five, s, request(0, 3, write(7, "a")))
	expectNothing(t, "pending", five, s, request(0, 5, read(7)))
}

// P10.8, and of a full log the other verdicts.
func TestRequestToAFullLog(t *testing.T) {
	for _, m := range []api.Msg{request(9, 3, write(3, "n")), request(0, 2, count), request(15, math.MaxInt, read(0)), request(4, 6, api.Op{Kind: api.OpAppend})} {
		c, s := roomOf(five, 5), aPrimary()
		refused := from(s, 7+m.Entry.Client, api.Msg{Kind: api.KindReply, View: 6, Entry: api.Entry{Client: m.Entry.Client, Number: m.Entry.Number}, Result: api.Result{Code: api.ResRefused}})
		expect(t, "full", c, s, m, s, refused)
		expect(t, "full once more", c, s, m, s, refused)
		s.Log = s.Log[:4]
		expect(t, "room for one", c, s, m, changed(s, func(s *api.State) { s.Log = append(s.Log, m.Entry) }),
			toAll(5, s, api.Msg{Kind: api.KindPrepare, View: 6, Entry: m.Entry, Place: 5, Commit: 2})...)
	}
	c, s := roomOf(five, 5), aPrimary()
	done := from(s, 7, api.Msg{Kind: api.KindReply, View: 6, Place: 1, Entry: api.Entry{Client: 0, Number: 1}, Result: written})
	expect(t, "done", c, s, request(0, 1, write(7, "a")), s, done)
	expectNothing(t, "pending", c, s, request(4, 5, read(7)))
	expectNothing(t, "old", c, s, request(4, 4, read(7)))
}

func TestRequestToTheLeastAndTheGreatestRoom(t *testing.T) {
	for _, c := range []api.Config{{F: 1, Room: 1, Patience: 6}, seven} {
		s := first(t, c, 0)
		for i, e := range logOf(c.Room) {
			behind, l := do(t, c, s, request(e.Client, e.Number, e.Op))
			if len(behind.Log) != i+1 || len(l) != 2*c.F || l[0].Msg.Kind != api.KindPrepare || l[0].Msg.Place != i+1 {
				t.Fatal(i, behind, l)
			}
			s = behind
		}
		refused := from(s, 7, api.Msg{Kind: api.KindReply, Entry: api.Entry{Client: 0, Number: 1000}, Result: api.Result{Code: api.ResRefused}})
		expect(t, "full", c, s, request(0, 1000, count), s, refused)
	}
}

// P10.8: whatever the request is, a full primary's state stays, and no Prepare goes out.
func TestFullPrimaryStaysAsItIs(t *testing.T) {
	r := rand.New(rand.NewPCG(10, 3))
	refused := 0
	for range 5000 {
		c := pick(r, configs()...)
		c.Room = 1 + r.IntN(4)
		s := someState(r, c)
		if s.Status != api.StatusNormal || s.Self != s.View%(2*c.F+1) || len(s.Log) != c.Room {
			continue
		}
		m := request(r.IntN(16), pick(r, 1, 1+r.IntN(15), math.MaxInt), someOp(r))
		got, l := do(t, c, s, m)
		if !same(got, s) || len(l) > 1 || len(l) == 1 && l[0].Msg.Kind != api.KindReply {
			t.Fatalf("%+v %+v", got, l)
		}
		fresh := oplog.Last(s.Log, m.Entry.Client) < m.Entry.Number
		if fresh != (len(l) == 1 && l[0].Msg.Result == api.Result{Code: api.ResRefused}) {
			t.Fatalf("%v: %+v at %+v", fresh, l, s)
		}
		if fresh {
			refused++
		}
	}
	if refused < 300 {
		t.Error("too few:", refused)
	}
}

// P10.9: requests come again and again, acknowledgements in between: none stands twice, and an answer stays the same.
func TestOnce(t *testing.T) {
	r := rand.New(rand.NewPCG(10, 4))
	again := 0
	for range 200 {
		c := pick(r, five, seven, three)
		c.Room = pick(r, 2, 6, 20)
		s := first(t, c, 0)
		told := make(map[api.Entry]api.Result) // by client and number: the answer it had
		check := func(l []api.Send) {
			for _, send := range l {
				m := send.Msg
				if m.Kind != api.KindReply || m.Result.Code == api.ResRefused {
					continue
				}
				if was, has := told[m.Entry]; has {
					again++
					if was != m.Result {
						t.Fatalf("%+v was answered %+v", m, was)
					}
				}
				told[m.Entry] = m.Result
			}
		}
		for range 60 {
			m := request(r.IntN(3), 1+r.IntN(6), someOp(r))
			if r.IntN(3) == 0 && len(s.Log) > 0 {
				m = api.Msg{Kind: api.KindPrepareOK, Node: 1 + r.IntN(2*c.F), Place: 1 + r.IntN(len(s.Log)), Vector: s.Vector}
			}
			behind, l := do(t, c, s, m)
			check(l)
			if _, e := client.Table(behind.Log, behind.Commit); e != api.OK || !oplog.Begins(s.Log, behind.Log) {
				t.Fatalf("%d: %+v", e, behind)
			}
			s = behind
		}
		// Each client's last request, if it is carried out, is answered whenever it comes.
		rows, _ := client.Table(s.Log, s.Commit)
		for _, row := range rows {
			behind, l := do(t, c, s, request(row.Client, row.Number, count))
			if !same(behind, s) || row.Done != (len(l) == 1) || row.Done && l[0].Msg.Result != told[api.Entry{Client: row.Client, Number: row.Number}] {
				t.Fatalf("%+v: %+v", row, l)
			}
			check(l)
		}
	}
	if again < 200 {
		t.Error("too few:", again)
	}
}

// P10.10: the greatest number is like any other; behind it every other one is old.
func TestTheGreatestNumber(t *testing.T) {
	s := first(t, three, 0)
	last := request(3, math.MaxInt, w)
	s, l := do(t, three, s, last)
	if len(s.Log) != 1 || s.Log[0] != last.Entry || !sameSends(l, toAll(3, s, api.Msg{Kind: api.KindPrepare, Entry: last.Entry, Place: 1})) {
		t.Fatal(s, l)
	}
	expectNothing(t, "pending", three, s, last)
	for _, number := range []int{1, 2, math.MaxInt / 2, math.MaxInt - 1} {
		expectNothing(t, "old", three, s, request(3, number, w))
	}
	backup, _ := do(t, three, first(t, three, 2), l[1].Msg)
	if len(backup.Log) != 1 || backup.Log[0] != last.Entry {
		t.Fatal(backup)
	}
	s, l = do(t, three, s, api.Msg{Kind: api.KindPrepareOK, Node: 2, Place: 1, Vector: s.Vector})
	reply := from(s, 10, api.Msg{Kind: api.KindReply, Place: 1, Entry: api.Entry{Client: 3, Number: math.MaxInt}, Result: written})
	if s.Commit != 1 || len(l) != 3 || !sameSends(l[:1], []api.Send{reply}) {
		t.Fatal(s, l)
	}
	expect(t, "done", three, s, last, s, reply)
	for _, number := range []int{1, 2, math.MaxInt - 1} {
		expectNothing(t, "old", three, s, request(3, number, w))
	}
	told := from(s, 10, api.Msg{Kind: api.KindTold, Commit: 1, Entry: api.Entry{Client: 3, Number: math.MaxInt}, Result: api.Result{Code: api.ResCount, Slot: 1}})
	expect(t, "a query", three, s, query(3, math.MaxInt, 1, count), s, told)
	if _, _, e := normal.Request(three, s, request(3, math.MinInt, w)); e != api.ErrField {
		t.Error(e)
	}
}

// Only a normal primary of its view hears requests.
func TestRequestElsewhere(t *testing.T) {
	for name, state := range everyState() {
		if name == "primary" {
			continue
		}
		for _, m := range []api.Msg{request(9, 3, w), request(0, 1, w), request(10, 3, w), request(5, 1, w)} {
			expectNothing(t, name, five, state(), m)
			expectNothing(t, name+", full", roomOf(five, 3), state(), m)
		}
	}
	// Which one is the primary hangs on the view.
	for view := range 7 {
		for self := range 5 {
			s := api.State{Self: self, Status: api.StatusNormal, View: view, Last: view, Vector: los(0, 0, 0, 0, 0)}
			got, l := do(t, five, s, request(9, 3, w))
			if leads := view%5 == self; leads != (len(got.Log) == 1) || leads != (len(l) == 4) {
				t.Error(view, self, got, l)
			}
		}
	}
}
