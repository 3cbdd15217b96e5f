package rejoin_test

import (
	"math"
	"math/big"
	"math/rand/v2"
	"reflect"
	"slices"
	"testing"

	"amnesia/api"
	"amnesia/client"
	"amnesia/core"
	"amnesia/message"
	"amnesia/rejoin"
)

// The chapter's group, and greater ones.
var (
	three = api.Config{F: 1, Room: 4, Patience: 6}
	five  = api.Config{F: 2, Room: 6, Patience: 9}
	seven = api.Config{F: 3, Room: 256, Patience: 100}
)

func configs() []api.Config {
	return []api.Config{three, five, seven, {F: 1, Room: 1, Patience: 7, Unguarded: true}, {F: 2, Room: 4, Patience: 6, Unguarded: true}}
}

// Configurations that may not be, each for one reason.
func wrongConfigs() []api.Config {
	return []api.Config{
		{}, {F: 0, Room: 6, Patience: 9}, {F: 4, Room: 6, Patience: 9}, {F: -1, Room: 6, Patience: 9},
		{F: 2, Room: 0, Patience: 9}, {F: 2, Room: 257, Patience: 9}, {F: 2, Room: -6, Patience: 9},
		{F: 2, Room: 6, Patience: 5}, {F: 2, Room: 6, Patience: 101}, {F: 2, Room: 6, Patience: -9, Unguarded: true},
		{F: math.MinInt, Room: 6, Patience: 9}, {F: math.MaxInt, Room: 6, Patience: 9},
		{F: 2, Room: math.MinInt, Patience: 9}, {F: 2, Room: math.MaxInt, Patience: 9},
		{F: 2, Room: 6, Patience: math.MinInt}, {F: 2, Room: 6, Patience: math.MaxInt},
	}
}

func unguarded(c api.Config) api.Config {
	c.Unguarded = true
	return c
}

func roomOf(c api.Config, room int) api.Config {
	c.Room = room
	return c
}

var edges = []int{math.MinInt, math.MinInt + 1, -1 << 32, -2, -1, 0, 1, 2, 3, 4, 5, 6, 7, 15, 16, 22, 23, 255, 256, 257, 1<<32 - 1, 1 << 32, 1<<32 + 1, math.MaxInt - 1, math.MaxInt}

func lo(n uint64) api.Draw { return api.Draw{Lo: n} }

// A crash vector of those Lo halves.
func los(l ...uint64) api.Vector {
	var v api.Vector
	for _, n := range l {
		v = append(v, lo(n))
	}
	return v
}

func write(slot int, value string) api.Op {
	return api.Op{Kind: api.OpWrite, Slot: slot, Value: value}
}

func read(slot int) api.Op { return api.Op{Kind: api.OpRead, Slot: slot} }

var count = api.Op{Kind: api.OpCount}

// A log of so many entries, by clients in turn, with operations of every kind, some of them twice.
func logOf(n int) []api.Entry {
	var l []api.Entry
	ops := []api.Op{write(7, "a"), write(7, "b"), {Kind: api.OpAppend, Value: "c"}, count, read(7), write(7, "a"), read(9)}
	for i := range n {
		l = append(l, api.Entry{Client: i * 5 % 16, Number: i + 1, Op: ops[i%len(ops)]})
	}
	return l
}

var vectorOfFive = los(4, 1, 0, 9, 2)

// States that may be, of each status, as a primary and as a backup; in a group of five, of which 1 is the primary of view 6.

func aPrimary() api.State {
	return api.State{Self: 1, Status: api.StatusNormal, View: 6, Last: 6, Log: logOf(5), Commit: 2, Vector: slices.Clone(vectorOfFive),
		Acks: []api.Ack{{Node: 0, Draw: lo(4), Place: 1}, {Node: 2, Place: 4}}}
}

func aBackup() api.State {
	return api.State{Self: 2, Status: api.StatusNormal, View: 6, Last: 6, Log: logOf(3), Commit: 1, Vector: slices.Clone(vectorOfFive), Idle: 8}
}

func aNextPrimary() api.State {
	return api.State{Self: 1, Status: api.StatusChange, View: 6, Last: 4, Log: logOf(3), Commit: 1, Vector: slices.Clone(vectorOfFive), Idle: 3,
		Marks:   []api.Mark{{Node: 0, Draw: lo(4)}, {Node: 2}, {Node: 3, Draw: lo(9)}, {Node: 4, Draw: lo(2)}},
		Ballots: []api.Ballot{{Node: 3, Draw: lo(9), Last: 5, Commit: 1, Log: logOf(2)}}}
}

func aChangingBackup() api.State {
	return api.State{Self: 2, Status: api.StatusChange, View: 6, Last: 4, Log: logOf(3), Commit: 1, Vector: slices.Clone(vectorOfFive), Idle: 3,
		Marks: []api.Mark{{Node: 0, Draw: lo(4)}, {Node: 1, Draw: lo(1)}, {Node: 4, Draw: lo(2)}}}
}

func aRecovering() api.State {
	return api.State{Self: 4, Status: api.StatusRecovering, Vector: slices.Clone(vectorOfFive),
		Answers: []api.Answer{{Node: 0, Draw: lo(4), View: 3}, {Node: 1, Draw: lo(1), View: 6, Commit: 1, Log: logOf(2)}, {Node: 3, Draw: lo(9), View: 7}}}
}

func everyState() map[string]func() api.State {
	return map[string]func() api.State{"primary": aPrimary, "backup": aBackup, "next primary": aNextPrimary, "changing backup": aChangingBackup, "recovering": aRecovering}
}

func changed(s api.State, change func(*api.State)) api.State {
	s = own(s)
	change(&s)
	return s
}

func changedMsg(m api.Msg, change func(*api.Msg)) api.Msg {
	change(&m)
	return m
}

// own: the state in memory of its own, with nil for empty lists, so that it can be kept, and compared whole.
func own(s api.State) api.State {
	s.Log, s.Vector = append([]api.Entry(nil), s.Log...), append(api.Vector(nil), s.Vector...)
	s.Acks, s.Marks = append([]api.Ack(nil), s.Acks...), append([]api.Mark(nil), s.Marks...)
	s.Ballots, s.Answers = append([]api.Ballot(nil), s.Ballots...), append([]api.Answer(nil), s.Answers...)
	for i := range s.Ballots {
		s.Ballots[i].Log = append([]api.Entry(nil), s.Ballots[i].Log...)
	}
	for i := range s.Answers {
		s.Answers[i].Log = append([]api.Entry(nil), s.Answers[i].Log...)
	}
	return s
}

func same(a, b api.State) bool { return reflect.DeepEqual(own(a), own(b)) }

// ownSend: likewise of what goes out.
func ownSend(s api.Send) api.Send {
	s.Msg.Log, s.Msg.Vector = append([]api.Entry(nil), s.Msg.Log...), append(api.Vector(nil), s.Msg.Vector...)
	return s
}

func sameSends(a, b []api.Send) bool {
	return slices.EqualFunc(a, b, func(a, b api.Send) bool { return reflect.DeepEqual(ownSend(a), ownSend(b)) })
}

func isZero(x any) bool { return reflect.ValueOf(x).IsZero() }

// call is one of the calls with a message.
type call func(api.Config, api.State, api.Msg) (api.State, []api.Send, api.Errno)

// The four kinds of this layer, and the call of each.
func calls() map[api.Kind]call {
	return map[api.Kind]call{
		api.KindRecovery: rejoin.Recovery, api.KindRecoveryResponse: rejoin.Response, api.KindGetState: rejoin.GetState, api.KindNewState: rejoin.NewState,
	}
}

func kinds() []api.Kind {
	return []api.Kind{api.KindRecovery, api.KindRecoveryResponse, api.KindGetState, api.KindNewState}
}

// do: the call of the message's kind.
func do(t *testing.T, c api.Config, s api.State, m api.Msg) (api.State, []api.Send) {
	t.Helper()
	behind, l, e := calls()[m.Kind](c, s, m)
	if e != api.OK {
		t.Fatalf("error %d: %+v at %+v", e, m, s)
	}
	return behind, l
}

// expect: the state behind a message and what goes out, both written out.
func expect(t *testing.T, what string, c api.Config, s api.State, m api.Msg, want api.State, sends ...api.Send) {
	t.Helper()
	if e := core.Check(c, s); e != api.OK {
		t.Fatalf("%s: the test's own state may not be: %d: %+v", what, e, s)
	}
	got, l := do(t, c, s, m)
	if !same(got, want) {
		t.Fatalf("%s: %+v, want %+v", what, got, want)
	}
	if !sameSends(l, sends) {
		t.Fatalf("%s: %+v goes out, want %+v", what, l, sends)
	}
}

func expectNothing(t *testing.T, what string, c api.Config, s api.State, m api.Msg) {
	t.Helper()
	expect(t, what, c, s, m, s)
}

// What goes out, by the one that has sent it: with Node, and Vector where the kind has it.

func from(s api.State, to int, m api.Msg) api.Send {
	m.Node = s.Self
	if !isClients(m.Kind) {
		m.Vector = s.Vector
	}
	return ownSend(api.Send{To: to, Msg: m})
}

// toAll: the same to all others of n, rising.
func toAll(n int, s api.State, m api.Msg) []api.Send {
	var l []api.Send
	for to := range n {
		if to != s.Self {
			l = append(l, from(s, to, m))
		}
	}
	return l
}

// What goes out of this layer, as the chapter words it.

// asking: with the draw of the asker's life.
func asking(s api.State) api.Msg {
	return api.Msg{Kind: api.KindRecovery, Draw: s.Vector[s.Self]}
}

func answering(view int, d api.Draw, commit int, log []api.Entry) api.Msg {
	return api.Msg{Kind: api.KindRecoveryResponse, View: view, Draw: d, Commit: commit, Log: log}
}

// all: what one that is normal gives to one that is behind.
func all(s api.State) api.Msg {
	return api.Msg{Kind: api.KindNewState, View: s.View, Commit: s.Commit, Log: s.Log}
}

// What comes in, in a group of five, with the vector that the states above have.

// recovery: the node has begun again: its draw is above the one that others know.
func recovery(node int) api.Msg {
	v := slices.Clone(vectorOfFive)
	v[node].Lo++
	return api.Msg{Kind: api.KindRecovery, Node: node, Draw: v[node], Vector: v}
}

// response: to aRecovering's draw.
func response(node, view, commit int, log []api.Entry) api.Msg {
	return api.Msg{Kind: api.KindRecoveryResponse, Node: node, View: view, Draw: lo(2), Commit: commit, Log: slices.Clone(log), Vector: slices.Clone(vectorOfFive)}
}

func getState(node, view int) api.Msg {
	return api.Msg{Kind: api.KindGetState, Node: node, View: view, Vector: slices.Clone(vectorOfFive)}
}

func newState(node, view, commit int, log []api.Entry) api.Msg {
	return api.Msg{Kind: api.KindNewState, Node: node, View: view, Commit: commit, Log: slices.Clone(log), Vector: slices.Clone(vectorOfFive)}
}

// msgOf: a message of that kind that may be in a group of five, by that node, which some of the states above do something about.
func msgOf(k api.Kind, node int) api.Msg {
	switch k {
	case api.KindRecovery:
		return recovery(node)
	case api.KindRecoveryResponse:
		return response(node, 5+node, 2, logOf(4))
	case api.KindGetState:
		return getState(node, 6)
	}
	return newState(node, 6, 2, logOf(4))
}

// takenOver: the state as one that has taken a log over.
func takenOver(s api.State, view, commit int, log []api.Entry) api.State {
	return changed(s, func(s *api.State) {
		s.Status, s.View, s.Last, s.Idle, s.Log, s.Commit = api.StatusNormal, view, view, 0, log, commit
		s.Acks, s.Marks, s.Ballots, s.Answers = nil, nil, nil, nil
	})
}

// acknowledged: by a log's length, to the view's primary, in a group of five.
func acknowledged(s api.State, view, place int) api.Send {
	return from(s, view%5, api.Msg{Kind: api.KindPrepareOK, View: view, Place: place})
}

// other: a log of so many entries that has none of logOf's.
func other(n int) []api.Entry {
	var l []api.Entry
	for i := range n {
		l = append(l, api.Entry{Client: 15, Number: 100 + i, Op: count})
	}
	return l
}

func isClients(k api.Kind) bool {
	return k == api.KindRequest || k == api.KindReply || k == api.KindQuery || k == api.KindTold
}

func asNumber(d api.Draw) *big.Int {
	n := new(big.Int).SetUint64(d.Hi)
	return n.Add(n.Lsh(n, 64), new(big.Int).SetUint64(d.Lo))
}

func below(a, b api.Draw) bool { return asNumber(a).Cmp(asNumber(b)) < 0 }

func pick[T any](r *rand.Rand, l ...T) T { return l[r.IntN(len(l))] }

func within(x, least, most int) int { return max(least, min(x, most)) }

// someDraw: often the same, by either half.
func someDraw(r *rand.Rand) api.Draw {
	return pick(r, api.Draw{}, lo(1), lo(2), lo(math.MaxUint64), api.Draw{Hi: 1}, api.Draw{Hi: 1, Lo: 1}, api.Draw{Hi: math.MaxUint64, Lo: math.MaxUint64})
}

func someVector(r *rand.Rand, c api.Config) api.Vector {
	v := make(api.Vector, 2*c.F+1)
	for i := range v {
		v[i] = someDraw(r)
	}
	return v
}

func someOp(r *rand.Rand) api.Op {
	return pick(r, write(r.IntN(2), pick(r, "", "a", "b")), write(1023, "z"), api.Op{Kind: api.OpAppend, Value: "c"}, read(r.IntN(3)), count)
}

// someLog: one that may be, often full, not longer than most.
func someLog(r *rand.Rand, most int) []api.Entry {
	var l []api.Entry
	most = min(most, 5)
	for i := range pick(r, most, r.IntN(most+1)) {
		l = append(l, api.Entry{Client: r.IntN(3) * 5, Number: 3*i + 1 + r.IntN(3), Op: someOp(r)})
	}
	return l
}

// someVoters: some of the others, rising.
func someVoters(r *rand.Rand, c api.Config, self int) []int {
	var l []int
	for node := range 2*c.F + 1 {
		if node != self && r.IntN(2) == 0 {
			l = append(l, node)
		}
	}
	return l
}

func someView(r *rand.Rand) int { return pick(r, r.IntN(10), r.IntN(10), 1<<32-r.IntN(8)) }

// someState: one that may be, often recovering.
func someState(r *rand.Rand, c api.Config) api.State {
	n := 2*c.F + 1
	s := api.State{Self: r.IntN(n), Status: pick(r, api.StatusNormal, api.StatusChange, api.StatusRecovering), Vector: someVector(r, c)}
	if s.Status == api.StatusRecovering {
		return someRecovering(r, c, s)
	}
	s.View = someView(r)
	if s.Status == api.StatusChange {
		s.View = max(s.View, 1)
	}
	if r.IntN(2) == 0 {
		s.Self = s.View % n
	}
	s.Log = someLog(r, c.Room)
	s.Commit = r.IntN(len(s.Log) + 1)
	s.Idle = r.IntN(c.Patience)
	if s.Status == api.StatusNormal {
		return someNormal(r, c, s)
	}
	return someChanging(r, c, s)
}

func someRecovering(r *rand.Rand, c api.Config, s api.State) api.State {
	if isZero(s.Vector[s.Self]) {
		s.Vector[s.Self] = lo(3)
	}
	for _, node := range someVoters(r, c, s.Self) {
		a := api.Answer{Node: node, Draw: s.Vector[node], View: someView(r)}
		if a.View%(2*c.F+1) == node {
			a.Log = someLog(r, c.Room)
			a.Commit = r.IntN(len(a.Log) + 1)
		}
		s.Answers = append(s.Answers, a)
	}
	return s
}

// someNormal: the state as a normal one, with votes if it is its view's primary.
func someNormal(r *rand.Rand, c api.Config, s api.State) api.State {
	s.Last = s.View
	if s.Self != s.View%(2*c.F+1) {
		return s
	}
	s.Idle = 0
	for _, node := range someVoters(r, c, s.Self) {
		if len(s.Log) > 0 {
			s.Acks = append(s.Acks, api.Ack{Node: node, Draw: s.Vector[node], Place: 1 + r.IntN(len(s.Log))})
		}
	}
	return s
}

// someChanging: the state as a changing one, with votes.
func someChanging(r *rand.Rand, c api.Config, s api.State) api.State {
	s.Last = pick(r, 0, s.View-1, r.IntN(s.View))
	for _, node := range someVoters(r, c, s.Self) {
		s.Marks = append(s.Marks, api.Mark{Node: node, Draw: s.Vector[node]})
	}
	for _, node := range someVoters(r, c, s.Self) {
		if s.Self == s.View%(2*c.F+1) && len(s.Ballots) < c.F-1 {
			b := api.Ballot{Node: node, Draw: s.Vector[node], Last: pick(r, 0, s.View-1, r.IntN(s.View)), Log: someLog(r, c.Room)}
			b.Commit = r.IntN(len(b.Log) + 1)
			s.Ballots = append(s.Ballots, b)
		}
	}
	return s
}

// someMsg: a message of the kind that may be, mostly one that this state does something about.
func someMsg(r *rand.Rand, c api.Config, s api.State, k api.Kind) api.Msg {
	n := 2*c.F + 1
	m := api.Msg{Kind: k, Vector: someVectorNear(r, s.Vector)}
	m.Node = (s.Self + pick(r, r.IntN(n), 1+r.IntN(n-1))) % n
	if k == api.KindRecovery {
		if isZero(m.Vector[m.Node]) {
			m.Vector[m.Node] = lo(1)
		}
		m.Draw = m.Vector[m.Node]
		return m
	}
	m.View = within(pick(r, s.View, s.View, s.View, s.View-1, s.View+1, s.View+n-s.View%n+s.Self, someView(r)), 0, 1<<32)
	if k == api.KindGetState {
		return m
	}
	m.Log = someLog(r, c.Room)
	if r.IntN(3) == 0 { // its own, perhaps a piece of it
		m.Log = slices.Clone(s.Log[:r.IntN(len(s.Log)+1)])
	}
	if k == api.KindRecoveryResponse {
		someResponse(r, c, s, &m)
	}
	m.Commit = r.IntN(len(m.Log) + 1)
	return m
}

// someResponse: mostly to the state's own draw, often of a view that an answer of it is of, or of the sender's own.
func someResponse(r *rand.Rand, c api.Config, s api.State, m *api.Msg) {
	n := 2*c.F + 1
	m.Draw = pick(r, s.Vector[s.Self], s.Vector[s.Self], s.Vector[s.Self], someDraw(r))
	if isZero(m.Draw) {
		m.Draw = lo(1)
	}
	m.View = someView(r)
	if len(s.Answers) > 0 && r.IntN(2) == 0 {
		m.View = pick(r, s.Answers...).View
	}
	if r.IntN(2) == 0 {
		m.View = within(m.View-m.View%n+m.Node, 0, 1<<32)
	}
	if m.View%n != m.Node {
		m.Log = nil
	}
}

// someVectorNear: mostly the same; else with some entries above or below.
func someVectorNear(r *rand.Rand, v api.Vector) api.Vector {
	v = slices.Clone(v)
	for range pick(r, 0, 0, 0, 1, 2) {
		v[r.IntN(len(v))] = someDraw(r)
	}
	return v
}

// stateMayBe is chapter 9's rules, in other words than the program's.
func stateMayBe(c api.Config, s api.State) bool {
	n := 2*c.F + 1
	logMayBe := func(l []api.Entry, commit int) bool {
		_, e := client.Table(l, commit)
		return e == api.OK && len(l) <= c.Room
	}
	right := s.Self >= 0 && s.Self < n && s.View >= 0 && s.View <= 1<<32 && s.Last >= 0 && s.Last <= s.View && len(s.Vector) == n && s.Idle >= 0 && s.Idle < c.Patience && logMayBe(s.Log, s.Commit)
	if !right {
		return false
	}
	last := [4]int{-1, -1, -1, -1}
	vote := func(list, node int, d api.Draw) {
		right = right && node > last[list] && node < n && node != s.Self && d == s.Vector[node]
		last[list] = node
	}
	leads := s.View%n == s.Self
	for _, a := range s.Acks {
		vote(0, a.Node, a.Draw)
		right = right && s.Status == api.StatusNormal && leads && a.Place > 0 && a.Place <= len(s.Log)
	}
	for _, m := range s.Marks {
		vote(1, m.Node, m.Draw)
		right = right && s.Status == api.StatusChange
	}
	for _, b := range s.Ballots {
		vote(2, b.Node, b.Draw)
		right = right && s.Status == api.StatusChange && leads && len(s.Ballots) < c.F && b.Last >= 0 && b.Last < s.View && logMayBe(b.Log, b.Commit)
	}
	for _, a := range s.Answers {
		vote(3, a.Node, a.Draw)
		right = right && s.Status == api.StatusRecovering && a.View >= 0 && a.View <= 1<<32 && logMayBe(a.Log, a.Commit) && (a.Node == a.View%n || len(a.Log) == 0)
	}
	switch s.Status {
	case api.StatusNormal:
		return right && s.Last == s.View && (!leads || s.Idle == 0)
	case api.StatusChange:
		return right && s.Last < s.View
	case api.StatusRecovering:
		return right && s.View == 0 && s.Idle == 0 && len(s.Log) == 0 && s.Vector[s.Self] != api.Draw{}
	}
	return false
}

func first(t *testing.T, c api.Config, self int) api.State {
	t.Helper()
	s, e := core.First(c, self)
	if e != api.OK {
		t.Fatal(e)
	}
	return s
}

func checkMsg(t *testing.T, c api.Config, m api.Msg) {
	t.Helper()
	if e := message.Check(c, m); e != api.OK {
		t.Fatalf("the test's own message may not be: %d: %+v", e, m)
	}
}
