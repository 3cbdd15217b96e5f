package replica_test

import (
	"bytes"
	"math"
	"math/big"
	"reflect"
	"slices"
	"testing"

	"amnesia/api"
	"amnesia/change"
	"amnesia/client"
	"amnesia/core"
	"amnesia/ledger"
	"amnesia/message"
	"amnesia/normal"
	"amnesia/rejoin"
	"amnesia/replica"
)

// The chapter's group, and greater ones.
var (
	three = api.Config{F: 1, Room: 4, Patience: 6}
	five  = api.Config{F: 2, Room: 6, Patience: 9}
	seven = api.Config{F: 3, Room: 256, Patience: 100}
)

func configs() []api.Config {
	return []api.Config{three, five, seven, {F: 1, Room: 1, Patience: 7, Unguarded: true}, {F: 2, Room: 4, Patience: 6, Unguarded: true}}
}

// Configurations that may not be, each for one reason.
func wrongConfigs() []api.Config {
	return []api.Config{
		{}, {F: 0, Room: 6, Patience: 9}, {F: 4, Room: 6, Patience: 9}, {F: -1, Room: 6, Patience: 9},
		{F: 2, Room: 0, Patience: 9}, {F: 2, Room: 257, Patience: 9}, {F: 2, Room: -6, Patience: 9},
		{F: 2, Room: 6, Patience: 5}, {F: 2, Room: 6, Patience: 101}, {F: 2, Room: 6, Patience: -9, Unguarded: true},
		{F: math.MinInt, Room: 6, Patience: 9}, {F: math.MaxInt, Room: 6, Patience: 9},
		{F: 2, Room: math.MinInt, Patience: 9}, {F: 2, Room: math.MaxInt, Patience: 9},
		{F: 2, Room: 6, Patience: math.MinInt}, {F: 2, Room: 6, Patience: math.MaxInt},
	}
}

func unguarded(c api.Config) api.Config {
	c.Unguarded = true
	return c
}

var edges = []int{math.MinInt, math.MinInt + 1, -1 << 32, -2, -1, 0, 1, 2, 3, 4, 5, 6, 7, 15, 16, 22, 23, 255, 256, 257, 1<<32 - 1, 1 << 32, 1<<32 + 1, math.MaxInt - 1, math.MaxInt}

func lo(n uint64) api.Draw { return api.Draw{Lo: n} }

// A crash vector of those Lo halves.
func los(l ...uint64) api.Vector {
	var v api.Vector
	for _, n := range l {
		v = append(v, lo(n))
	}
	return v
}

func write(slot int, value string) api.Op {
	return api.Op{Kind: api.OpWrite, Slot: slot, Value: value}
}

func read(slot int) api.Op { return api.Op{Kind: api.OpRead, Slot: slot} }

var count = api.Op{Kind: api.OpCount}

// A log of so many entries, by clients in turn, with operations of every kind, some of them twice.
func logOf(n int) []api.Entry {
	var l []api.Entry
	ops := []api.Op{write(7, "a"), write(7, "b"), {Kind: api.OpAppend, Value: "c"}, count, read(7), write(7, "a"), read(9)}
	for i := range n {
		l = append(l, api.Entry{Client: i * 5 % 16, Number: i + 1, Op: ops[i%len(ops)]})
	}
	return l
}

// other: a log of so many entries that has none of logOf's.
func other(n int) []api.Entry {
	var l []api.Entry
	for i := range n {
		l = append(l, api.Entry{Client: 15, Number: 100 + i, Op: write(i, "other")})
	}
	return l
}

var vectorOfFive = los(4, 1, 0, 9, 2)

// States that may be, of each status, as the primary of their view and as another; in a group of five, of which 1 is the primary of view 6.

func aPrimary() api.State {
	return api.State{Self: 1, Status: api.StatusNormal, View: 6, Last: 6, Log: logOf(5), Commit: 2, Vector: slices.Clone(vectorOfFive),
		Acks: []api.Ack{{Node: 0, Draw: lo(4), Place: 1}, {Node: 2, Place: 4}}}
}

func aBackup() api.State {
	return api.State{Self: 2, Status: api.StatusNormal, View: 6, Last: 6, Log: logOf(3), Commit: 1, Vector: slices.Clone(vectorOfFive), Idle: 3}
}

func aNextPrimary() api.State {
	return api.State{Self: 1, Status: api.StatusChange, View: 6, Last: 4, Log: logOf(3), Commit: 1, Vector: slices.Clone(vectorOfFive), Idle: 3,
		Marks:   []api.Mark{{Node: 0, Draw: lo(4)}, {Node: 2}, {Node: 3, Draw: lo(9)}, {Node: 4, Draw: lo(2)}},
		Ballots: []api.Ballot{{Node: 3, Draw: lo(9), Last: 5, Commit: 1, Log: logOf(2)}}}
}

func aChangingBackup() api.State {
	return api.State{Self: 2, Status: api.StatusChange, View: 6, Last: 4, Log: logOf(3), Commit: 1, Vector: slices.Clone(vectorOfFive), Idle: 3,
		Marks: []api.Mark{{Node: 0, Draw: lo(4)}, {Node: 1, Draw: lo(1)}, {Node: 4, Draw: lo(2)}}}
}

func aRecovering() api.State {
	return api.State{Self: 4, Status: api.StatusRecovering, Vector: slices.Clone(vectorOfFive),
		Answers: []api.Answer{{Node: 0, Draw: lo(4), View: 3}, {Node: 1, Draw: lo(1), View: 6, Commit: 1, Log: logOf(2)}, {Node: 3, Draw: lo(9), View: 7}}}
}

// aRecoveringPrimary: all who recover are in view 0, of which 0 is the primary.
func aRecoveringPrimary() api.State {
	return api.State{Self: 0, Status: api.StatusRecovering, Vector: slices.Clone(vectorOfFive),
		Answers: []api.Answer{{Node: 1, Draw: lo(1), View: 6, Commit: 1, Log: logOf(2)}, {Node: 3, Draw: lo(9), View: 7}}}
}

func everyState() map[string]func() api.State {
	return map[string]func() api.State{
		"primary": aPrimary, "backup": aBackup, "next primary": aNextPrimary, "changing backup": aChangingBackup,
		"recovering": aRecovering, "recovering primary": aRecoveringPrimary,
	}
}

func changed(s api.State, change func(*api.State)) api.State {
	s = own(s)
	change(&s)
	return s
}

func changedMsg(m api.Msg, change func(*api.Msg)) api.Msg {
	m.Log, m.Vector = slices.Clone(m.Log), slices.Clone(m.Vector)
	change(&m)
	return m
}

// own: the state in memory of its own, with nil for empty lists, so that it can be kept, and compared whole.
func own(s api.State) api.State {
	s.Log, s.Vector = append([]api.Entry(nil), s.Log...), append(api.Vector(nil), s.Vector...)
	s.Acks, s.Marks = append([]api.Ack(nil), s.Acks...), append([]api.Mark(nil), s.Marks...)
	s.Ballots, s.Answers = append([]api.Ballot(nil), s.Ballots...), append([]api.Answer(nil), s.Answers...)
	for i := range s.Ballots {
		s.Ballots[i].Log = append([]api.Entry(nil), s.Ballots[i].Log...)
	}
	for i := range s.Answers {
		s.Answers[i].Log = append([]api.Entry(nil), s.Answers[i].Log...)
	}
	return s
}

func same(a, b api.State) bool { return reflect.DeepEqual(own(a), own(b)) }

func samePackets(a, b []api.Packet) bool {
	return slices.EqualFunc(a, b, func(a, b api.Packet) bool { return a.From == b.From && a.To == b.To && bytes.Equal(a.Bytes, b.Bytes) })
}

func isZero(x any) bool { return reflect.ValueOf(x).IsZero() }

// call is one of the calls of the layers below that take a message.
type call func(api.Config, api.State, api.Msg) (api.State, []api.Send, api.Errno)

// calls: as the chapter names them. Of a Reply and a Told there is none.
func calls() map[api.Kind]call {
	return map[api.Kind]call{
		api.KindRequest: normal.Request, api.KindPrepare: normal.Prepare, api.KindPrepareOK: normal.PrepareOK, api.KindCommit: normal.Commit, api.KindQuery: normal.Query,
		api.KindStartViewChange: change.Start, api.KindDoViewChange: change.Vote, api.KindStartView: change.Install,
		api.KindRecovery: rejoin.Recovery, api.KindRecoveryResponse: rejoin.Response, api.KindGetState: rejoin.GetState, api.KindNewState: rejoin.NewState,
	}
}

func kinds() []api.Kind {
	var l []api.Kind
	for k := api.KindRequest; k <= api.KindTold; k++ {
		l = append(l, k)
	}
	return l
}

// wantHandled: the state behind a message, and what goes out.
func wantHandled(t *testing.T, c api.Config, s api.State, m api.Msg) (api.State, []api.Packet) {
	t.Helper()
	does := calls()[m.Kind]
	if does == nil {
		return s, nil
	}
	behind, sends, e := does(c, s, m)
	if e != api.OK {
		t.Fatalf("%d below: %+v at %+v", e, m, s)
	}
	return behind, packets(t, c, s.Self, sends...)
}

// wantTicked: the state behind a tick, and what goes out.
func wantTicked(t *testing.T, c api.Config, s api.State) (api.State, []api.Packet) {
	t.Helper()
	var sends []api.Send
	var e api.Errno
	switch primary := s.View%(2*c.F+1) == s.Self; {
	case s.Status == api.StatusNormal && primary:
		s, sends, e = normal.Beat(c, s)
	case s.Status == api.StatusRecovering:
		s, sends, e = rejoin.Ask(c, s)
	case s.Idle == c.Patience-1:
		s, _, _ = core.Wait(c, s)
		s, sends, e = change.Suspect(c, s)
	case s.Status == api.StatusChange:
		s, _, _ = core.Wait(c, s)
		sends, e = change.Again(c, s)
	default:
		s, _, e = core.Wait(c, s)
	}
	if e != api.OK {
		t.Fatalf("%d below: at %+v", e, s)
	}
	return s, packets(t, c, s.Self, sends...)
}

// packets: what goes out of that replica.
func packets(t *testing.T, c api.Config, self int, sends ...api.Send) []api.Packet {
	t.Helper()
	var l []api.Packet
	for _, send := range sends {
		l = append(l, api.Packet{From: self, To: send.To, Bytes: frame(t, c, send.Msg)})
	}
	return l
}

func frame(t *testing.T, c api.Config, m api.Msg) []byte {
	t.Helper()
	b, e := message.Encode(c, m)
	if e != api.OK {
		t.Fatalf("the test's own message may not be: %d: %+v", e, m)
	}
	return b
}

// decoded: what went out, as messages.
func decoded(t *testing.T, c api.Config, l []api.Packet) []api.Send {
	t.Helper()
	var sends []api.Send
	for _, p := range l {
		m, e := message.Decode(c, p.Bytes)
		if e != api.OK {
			t.Fatalf("%d: %+v does not decode", e, p)
		}
		sends = append(sends, api.Send{To: p.To, Msg: m})
	}
	return sends
}

// with: a replica with that state.
func with(t *testing.T, c api.Config, s api.State) *replica.Replica {
	t.Helper()
	r, e := replica.From(c, s)
	if e != api.OK || r == nil {
		t.Fatalf("%d: %+v", e, s)
	}
	return r
}

func first(t *testing.T, c api.Config, self int) *replica.Replica {
	t.Helper()
	r, e := replica.New(c, self)
	if e != api.OK || r == nil {
		t.Fatal(e, r)
	}
	return r
}

func again(t *testing.T, c api.Config, self int, d api.Draw) (*replica.Replica, []api.Packet) {
	t.Helper()
	r, l, e := replica.Restart(c, self, d)
	if e != api.OK || r == nil {
		t.Fatal(e, r)
	}
	return r, l
}

func handle(t *testing.T, r *replica.Replica, c api.Config, m api.Msg) []api.Packet {
	t.Helper()
	l, e := r.Handle(frame(t, c, m))
	if e != api.OK {
		t.Fatalf("error %d: %+v at %+v", e, m, r.State())
	}
	return l
}

func tick(t *testing.T, r *replica.Replica) []api.Packet {
	t.Helper()
	l, e := r.Tick()
	if e != api.OK {
		t.Fatalf("error %d: %+v", e, r.State())
	}
	return l
}

// cellsOf and rowsOf: chapters 4's and 5's, entry by entry.

func cellsOf(log []api.Entry, commit int) []api.Cell {
	l := ledger.New()
	for _, e := range log[:commit] {
		l.Do(e.Op)
	}
	return l.Cells()
}

func rowsOf(log []api.Entry, commit int) []api.Row {
	var rows []api.Row
	l := ledger.New()
	for i, e := range log {
		row := api.Row{Client: e.Client, Number: e.Number, Place: i + 1}
		if i < commit {
			row.Done, row.Result = true, l.Do(e.Op)
		}
		rows = slices.DeleteFunc(rows, func(old api.Row) bool { return old.Client == e.Client })
		rows = append(rows, row)
	}
	slices.SortFunc(rows, func(a, b api.Row) int { return a.Client - b.Client })
	return rows
}

// expectLooks: all that can be seen of a replica is what that state makes.
func expectLooks(t *testing.T, what string, r *replica.Replica, want api.State) {
	t.Helper()
	if got := r.State(); !same(got, want) {
		t.Fatalf("%s: %+v, want %+v", what, got, want)
	}
	if got := r.Cells(); !slices.Equal(got, cellsOf(want.Log, want.Commit)) {
		t.Fatalf("%s: cells %+v of %+v", what, got, want)
	}
	table, e := client.Table(want.Log, want.Commit)
	if got := r.Rows(); e != api.OK || !slices.Equal(got, table) || !slices.Equal(got, rowsOf(want.Log, want.Commit)) {
		t.Fatalf("%s: rows %+v of %+v", what, got, want)
	}
}

// expectHandled: the state behind a message and what goes out, both written out.
func expectHandled(t *testing.T, what string, c api.Config, s api.State, m api.Msg, want api.State, out ...api.Send) {
	t.Helper()
	r := with(t, c, s)
	l := handle(t, r, c, m)
	if !samePackets(l, packets(t, c, s.Self, out...)) {
		t.Fatalf("%s: %+v goes out, want %+v", what, decoded(t, c, l), out)
	}
	expectLooks(t, what, r, want)
}

func expectTicked(t *testing.T, what string, c api.Config, s api.State, want api.State, out ...api.Send) {
	t.Helper()
	r := with(t, c, s)
	l := tick(t, r)
	if !samePackets(l, packets(t, c, s.Self, out...)) {
		t.Fatalf("%s: %+v goes out, want %+v", what, decoded(t, c, l), out)
	}
	expectLooks(t, what, r, want)
}

// What goes out, by the one that has sent it: with Node, and Vector where the kind has it.

func from(s api.State, to int, m api.Msg) api.Send {
	m.Node = s.Self
	if !isClients(m.Kind) {
		m.Vector = s.Vector
	}
	return api.Send{To: to, Msg: m}
}

// toAll: the same to all others of n, rising.
func toAll(n int, s api.State, m api.Msg) []api.Send {
	var l []api.Send
	for to := range n {
		if to != s.Self {
			l = append(l, from(s, to, m))
		}
	}
	return l
}

// msgOf: a message of that kind that may be in a group of five, by that node, with the vector that the states above have; some of them do something about it.
func msgOf(k api.Kind, node int) api.Msg {
	m := api.Msg{Kind: k, Node: node, View: 6, Vector: slices.Clone(vectorOfFive)}
	entry := api.Entry{Client: 9, Number: 3, Op: write(3, "n")}
	name := api.Entry{Client: 9, Number: 3}
	switch k {
	case api.KindRequest:
		return api.Msg{Kind: k, Entry: entry}
	case api.KindReply:
		return api.Msg{Kind: k, Node: node, View: 6, Place: 4, Entry: name, Result: api.Result{Code: api.ResWritten, Slot: 3, Value: "n"}}
	case api.KindQuery:
		return api.Msg{Kind: k, Place: 1, Entry: api.Entry{Client: 9, Number: 3, Op: read(7)}}
	case api.KindTold:
		return api.Msg{Kind: k, Node: node, View: 6, Commit: 4, Entry: name, Result: api.Result{Code: api.ResCount, Slot: 1}}
	case api.KindPrepare:
		m.View, m.Place, m.Commit, m.Entry = 5+node, 4, 2, entry
	case api.KindPrepareOK:
		m.Place = 4
	case api.KindCommit:
		m.View, m.Commit = 5+node, 3
	case api.KindStartViewChange:
		m.View = 7
	case api.KindDoViewChange:
		m.Last, m.Commit, m.Log = 5, 2, logOf(4)
	case api.KindStartView:
		m.View, m.Commit, m.Log = 5+node, 2, logOf(4)
	case api.KindRecovery: // it has begun again: its draw is above the one that others know
		m.View = 0
		m.Vector[node].Lo++
		m.Draw = m.Vector[node]
	case api.KindRecoveryResponse: // to aRecovering's draw
		m.View, m.Draw, m.Commit, m.Log = 5+node, lo(2), 2, logOf(4)
	case api.KindNewState:
		m.Commit, m.Log = 2, logOf(4)
	}
	return m
}

func isClients(k api.Kind) bool {
	return k == api.KindRequest || k == api.KindReply || k == api.KindQuery || k == api.KindTold
}

func asNumber(d api.Draw) *big.Int {
	n := new(big.Int).SetUint64(d.Hi)
	return n.Add(n.Lsh(n, 64), new(big.Int).SetUint64(d.Lo))
}

func below(a, b api.Draw) bool { return asNumber(a).Cmp(asNumber(b)) < 0 }

// stateMayBe is chapter 9's rules, in other words than the program's.
func stateMayBe(c api.Config, s api.State) bool {
	n := 2*c.F + 1
	logMayBe := func(l []api.Entry, commit int) bool {
		_, e := client.Table(l, commit)
		return e == api.OK && len(l) <= c.Room
	}
	right := s.Self >= 0 && s.Self < n && s.View >= 0 && s.View <= 1<<32 && s.Last >= 0 && s.Last <= s.View && len(s.Vector) == n && s.Idle >= 0 && s.Idle < c.Patience && logMayBe(s.Log, s.Commit)
	if !right {
		return false
	}
	last := [4]int{-1, -1, -1, -1}
	vote := func(list, node int, d api.Draw) {
		right = right && node > last[list] && node < n && node != s.Self && d == s.Vector[node]
		last[list] = node
	}
	leads := s.View%n == s.Self
	for _, a := range s.Acks {
		vote(0, a.Node, a.Draw)
		right = right && s.Status == api.StatusNormal && leads && a.Place > 0 && a.Place <= len(s.Log)
	}
	for _, m := range s.Marks {
		vote(1, m.Node, m.Draw)
		right = right && s.Status == api.StatusChange
	}
	for _, b := range s.Ballots {
		vote(2, b.Node, b.Draw)
		right = right && s.Status == api.StatusChange && leads && len(s.Ballots) < c.F && b.Last >= 0 && b.Last < s.View && logMayBe(b.Log, b.Commit)
	}
	for _, a := range s.Answers {
		vote(3, a.Node, a.Draw)
		right = right && s.Status == api.StatusRecovering && a.View >= 0 && a.View <= 1<<32 && logMayBe(a.Log, a.Commit) && (a.Node == a.View%n || len(a.Log) == 0)
	}
	switch s.Status {
	case api.StatusNormal:
		return right && s.Last == s.View && (!leads || s.Idle == 0)
	case api.StatusChange:
		return right && s.Last < s.View
	case api.StatusRecovering:
		return right && s.View == 0 && s.Idle == 0 && len(s.Log) == 0 && s.Vector[s.Self] != api.Draw{}
	}
	return false
}
