package core_test

import (
	"math"
	"math/big"
	"math/rand/v2"
	"reflect"
	"slices"
	"testing"

	"amnesia/api"
	"amnesia/client"
	"amnesia/core"
	"amnesia/message"
)

// The chapter's group, and greater ones.
var (
	three = api.Config{F: 1, Room: 4, Patience: 6}
	five  = api.Config{F: 2, Room: 6, Patience: 9}
	seven = api.Config{F: 3, Room: 256, Patience: 100}
)

func configs() []api.Config {
	return []api.Config{three, five, seven, {F: 1, Room: 1, Patience: 7, Unguarded: true}, {F: 2, Room: 9, Patience: 6, Unguarded: true}}
}

// Configurations that may not be, each for one reason.
func wrongConfigs() []api.Config {
	return []api.Config{
		{}, {F: 0, Room: 4, Patience: 6}, {F: 4, Room: 4, Patience: 6}, {F: -1, Room: 4, Patience: 6},
		{F: 1, Room: 0, Patience: 6}, {F: 1, Room: 257, Patience: 6}, {F: 1, Room: -4, Patience: 6},
		{F: 1, Room: 4, Patience: 5}, {F: 1, Room: 4, Patience: 101}, {F: 1, Room: 4, Patience: -6, Unguarded: true},
		{F: math.MinInt, Room: 4, Patience: 6}, {F: math.MaxInt, Room: 4, Patience: 6},
		{F: 1, Room: math.MinInt, Patience: 6}, {F: 1, Room: math.MaxInt, Patience: 6},
		{F: 1, Room: 4, Patience: math.MinInt}, {F: 1, Room: 4, Patience: math.MaxInt},
	}
}

var edges = []int{math.MinInt, math.MinInt + 1, -1 << 32, -8, -2, -1, 0, 1, 2, 3, 4, 5, 6, 7, 8, 22, 23, 24, 99, 100, 255, 256, 257, 1<<32 - 1, 1 << 32, 1<<32 + 1, math.MaxInt - 1, math.MaxInt}

func lo(n uint64) api.Draw { return api.Draw{Lo: n} }

// A crash vector of those Lo halves.
func los(l ...uint64) api.Vector {
	var v api.Vector
	for _, n := range l {
		v = append(v, lo(n))
	}
	return v
}

func write(slot int, value string) api.Op {
	return api.Op{Kind: api.OpWrite, Slot: slot, Value: value}
}

// A log of so many entries, by clients in turn, with operations of every kind, some of them twice.
func logOf(n int) []api.Entry {
	var l []api.Entry
	ops := []api.Op{write(7, "a"), write(7, "b"), {Kind: api.OpAppend, Value: "c"}, {Kind: api.OpCount}, {Kind: api.OpRead, Slot: 7}, write(7, "a"), {Kind: api.OpRead, Slot: 9}}
	for i := range n {
		l = append(l, api.Entry{Client: i * 5 % 16, Number: i + 1, Op: ops[i%len(ops)]})
	}
	return l
}

// States that may be, of each status, as a primary and as a backup; in a group of five.

func aPrimary() api.State {
	return api.State{Self: 1, Status: api.StatusNormal, View: 6, Last: 6, Log: logOf(3), Commit: 2, Vector: los(4, 1, 0, 9, 2),
		Acks: []api.Ack{{Node: 0, Draw: lo(4), Place: 1}, {Node: 2, Place: 3}, {Node: 3, Draw: lo(9), Place: 2}}}
}

func aBackup() api.State {
	return api.State{Self: 2, Status: api.StatusNormal, View: 6, Last: 6, Log: logOf(3), Commit: 2, Vector: los(4, 1, 0, 9, 2), Idle: 8}
}

func aNextPrimary() api.State {
	return api.State{Self: 1, Status: api.StatusChange, View: 6, Last: 4, Log: logOf(3), Commit: 2, Vector: los(4, 1, 0, 9, 2), Idle: 3,
		Marks:   []api.Mark{{Node: 0, Draw: lo(4)}, {Node: 2}, {Node: 3, Draw: lo(9)}, {Node: 4, Draw: lo(2)}},
		Ballots: []api.Ballot{{Node: 3, Draw: lo(9), Last: 5, Commit: 1, Log: logOf(2)}}}
}

func aChangingBackup() api.State {
	return api.State{Self: 2, Status: api.StatusChange, View: 6, Last: 4, Log: logOf(3), Commit: 2, Vector: los(4, 1, 0, 9, 2), Idle: 3,
		Marks: []api.Mark{{Node: 0, Draw: lo(4)}, {Node: 1, Draw: lo(1)}, {Node: 4, Draw: lo(2)}}}
}

func aRecovering() api.State {
	return api.State{Self: 4, Status: api.StatusRecovering, Vector: los(4, 1, 0, 9, 2),
		Answers: []api.Answer{{Node: 0, Draw: lo(4), View: 3}, {Node: 1, Draw: lo(1), View: 6, Commit: 1, Log: logOf(2)}, {Node: 3, Draw: lo(9), View: 7}}}
}

func everyState() map[string]func() api.State {
	return map[string]func() api.State{"primary": aPrimary, "backup": aBackup, "next primary": aNextPrimary, "changing backup": aChangingBackup, "recovering": aRecovering}
}

func changed(s api.State, change func(*api.State)) api.State {
	change(&s)
	return s
}

// own: the state in memory of its own, with nil for empty lists, so that it can be kept, and compared whole.
func own(s api.State) api.State {
	s.Log, s.Vector = append([]api.Entry(nil), s.Log...), append(api.Vector(nil), s.Vector...)
	s.Acks, s.Marks = append([]api.Ack(nil), s.Acks...), append([]api.Mark(nil), s.Marks...)
	s.Ballots, s.Answers = append([]api.Ballot(nil), s.Ballots...), append([]api.Answer(nil), s.Answers...)
	for i := range s.Ballots {
		s.Ballots[i].Log = append([]api.Entry(nil), s.Ballots[i].Log...)
	}
	for i := range s.Answers {
		s.Answers[i].Log = append([]api.Entry(nil), s.Answers[i].Log...)
	}
	return s
}

func same(a, b api.State) bool { return reflect.DeepEqual(own(a), own(b)) }

func expectState(t *testing.T, what string, got, want api.State) {
	t.Helper()
	if !same(got, want) {
		t.Fatalf("%s: %+v, want %+v", what, got, want)
	}
}

// ownSend: likewise of what goes out.
func ownSend(s api.Send) api.Send {
	s.Msg.Log, s.Msg.Vector = append([]api.Entry(nil), s.Msg.Log...), append(api.Vector(nil), s.Msg.Vector...)
	return s
}

func sameSends(a, b []api.Send) bool {
	return slices.EqualFunc(a, b, func(a, b api.Send) bool { return reflect.DeepEqual(ownSend(a), ownSend(b)) })
}

func isZero(x any) bool { return reflect.ValueOf(x).IsZero() }

func asNumber(d api.Draw) *big.Int {
	n := new(big.Int).SetUint64(d.Hi)
	return n.Add(n.Lsh(n, 64), new(big.Int).SetUint64(d.Lo))
}

func below(a, b api.Draw) bool { return asNumber(a).Cmp(asNumber(b)) < 0 }

func pick[T any](r *rand.Rand, l ...T) T { return l[r.IntN(len(l))] }

// someDraw: often the same, by either half.
func someDraw(r *rand.Rand) api.Draw {
	return pick(r, api.Draw{}, lo(1), lo(2), lo(math.MaxUint64), api.Draw{Hi: 1}, api.Draw{Hi: 1, Lo: 1}, api.Draw{Hi: math.MaxUint64}, api.Draw{Hi: math.MaxUint64, Lo: math.MaxUint64})
}

func someVector(r *rand.Rand, c api.Config) api.Vector {
	v := make(api.Vector, 2*c.F+1)
	for i := range v {
		v[i] = someDraw(r)
	}
	return v
}

// someLog: one that may be, not longer than most.
func someLog(r *rand.Rand, most int) []api.Entry {
	var l []api.Entry
	for i := range r.IntN(min(most, 5) + 1) {
		op := pick(r, write(r.IntN(2), pick(r, "", "a", "b")), api.Op{Kind: api.OpAppend, Value: "c"}, api.Op{Kind: api.OpRead, Slot: r.IntN(3)}, api.Op{Kind: api.OpCount})
		l = append(l, api.Entry{Client: r.IntN(3) * 5, Number: 3*i + 1 + r.IntN(3), Op: op})
	}
	return l
}

// someVoters: some of the others, rising.
func someVoters(r *rand.Rand, c api.Config, self int) []int {
	var l []int
	for node := range 2*c.F + 1 {
		if node != self && r.IntN(2) == 0 {
			l = append(l, node)
		}
	}
	return l
}

func someView(r *rand.Rand) int { return pick(r, r.IntN(10), r.IntN(10), 1<<32-r.IntN(8)) }

// someState: one that may be.
func someState(r *rand.Rand, c api.Config) api.State {
	n := 2*c.F + 1
	s := api.State{Self: r.IntN(n), Status: pick(r, api.StatusNormal, api.StatusChange, api.StatusRecovering), Vector: someVector(r, c)}
	if s.Status == api.StatusRecovering {
		if isZero(s.Vector[s.Self]) {
			s.Vector[s.Self] = lo(3)
		}
		for _, node := range someVoters(r, c, s.Self) {
			a := api.Answer{Node: node, Draw: s.Vector[node], View: someView(r)}
			if a.View%n == node {
				a.Log = someLog(r, c.Room)
				a.Commit = r.IntN(len(a.Log) + 1)
			}
			s.Answers = append(s.Answers, a)
		}
		return s
	}
	s.View = someView(r)
	if s.Status == api.StatusChange {
		s.View = max(s.View, 1)
	}
	if r.IntN(2) == 0 {
		s.Self = s.View % n
	}
	s.Log = someLog(r, c.Room)
	s.Commit = r.IntN(len(s.Log) + 1)
	s.Idle = r.IntN(c.Patience)
	if s.Status == api.StatusNormal {
		return someNormal(r, c, s)
	}
	return someChanging(r, c, s)
}

// someNormal: the state as a normal one, with votes if it is its view's primary.
func someNormal(r *rand.Rand, c api.Config, s api.State) api.State {
	s.Last = s.View
	if s.Self != s.View%(2*c.F+1) {
		return s
	}
	s.Idle = 0
	for _, node := range someVoters(r, c, s.Self) {
		if len(s.Log) > 0 {
			s.Acks = append(s.Acks, api.Ack{Node: node, Draw: s.Vector[node], Place: 1 + r.IntN(len(s.Log))})
		}
	}
	return s
}

// someChanging: the state as a changing one, with votes.
func someChanging(r *rand.Rand, c api.Config, s api.State) api.State {
	s.Last = pick(r, 0, s.View-1, r.IntN(s.View))
	for _, node := range someVoters(r, c, s.Self) {
		s.Marks = append(s.Marks, api.Mark{Node: node, Draw: s.Vector[node]})
	}
	for _, node := range someVoters(r, c, s.Self) {
		if s.Self == s.View%(2*c.F+1) && len(s.Ballots) < c.F-1 {
			b := api.Ballot{Node: node, Draw: s.Vector[node], Last: pick(r, 0, s.View-1, r.IntN(s.View)), Log: someLog(r, c.Room)}
			b.Commit = r.IntN(len(b.Log) + 1)
			s.Ballots = append(s.Ballots, b)
		}
	}
	return s
}

// logMayBe: asked in another way than the program does.
func logMayBe(l []api.Entry, commit, room int) bool {
	_, e := client.Table(l, commit)
	return e == api.OK && len(l) <= room
}

func configMayBe(c api.Config) bool {
	return c.F > 0 && c.F < 4 && c.Room > 0 && c.Room < 257 && c.Patience > 5 && c.Patience < 101
}

// stateMayBe is the chapter's five rules, in other words than the program's.
func stateMayBe(c api.Config, s api.State) bool {
	n := 2*c.F + 1
	if s.Self < 0 || s.Self >= n || s.Status < 1 || s.Status > 3 || s.View < 0 || s.View > 1<<32 || s.Last < 0 || s.Last > s.View {
		return false
	}
	if !logMayBe(s.Log, s.Commit, c.Room) || len(s.Vector) != n || s.Idle < 0 || s.Idle >= c.Patience {
		return false
	}
	right := true
	last := [4]int{-1, -1, -1, -1}
	vote := func(list, node int, d api.Draw) {
		right = right && node > last[list] && node < n && node != s.Self && asNumber(d).Cmp(asNumber(s.Vector[node])) == 0
		last[list] = node
	}
	leads := s.View%n == s.Self
	for _, a := range s.Acks {
		vote(0, a.Node, a.Draw)
		right = right && s.Status == api.StatusNormal && leads && a.Place > 0 && a.Place <= len(s.Log)
	}
	for _, m := range s.Marks {
		vote(1, m.Node, m.Draw)
		right = right && s.Status == api.StatusChange
	}
	for _, b := range s.Ballots {
		vote(2, b.Node, b.Draw)
		right = right && s.Status == api.StatusChange && leads && len(s.Ballots) <= c.F-1 && b.Last >= 0 && b.Last < s.View && logMayBe(b.Log, b.Commit, c.Room)
	}
	for _, a := range s.Answers {
		vote(3, a.Node, a.Draw)
		right = right && s.Status == api.StatusRecovering && a.View >= 0 && a.View <= 1<<32 && logMayBe(a.Log, a.Commit, c.Room)
		right = right && (a.Node == a.View%n || len(a.Log) == 0 && a.Commit == 0)
	}
	switch {
	case !right:
		return false
	case s.Status == api.StatusNormal:
		return s.Last == s.View && (!leads || s.Idle == 0)
	case s.Status == api.StatusChange:
		return s.Last <= s.View-1
	}
	return s.View == 0 && s.Last == 0 && s.Commit == 0 && s.Idle == 0 && len(s.Log) == 0 && asNumber(s.Vector[s.Self]).Sign() > 0
}

func wantCheck(c api.Config, s api.State) api.Errno {
	switch {
	case !configMayBe(c):
		return api.ErrConfig
	case !stateMayBe(c, s):
		return api.ErrState
	}
	return api.OK
}

func allKinds() []api.Kind {
	var l []api.Kind
	for k := api.KindRequest; k <= api.KindTold; k++ {
		l = append(l, k)
	}
	return l
}

func isClients(k api.Kind) bool {
	return k == api.KindRequest || k == api.KindReply || k == api.KindQuery || k == api.KindTold
}

// msgOf: a message of that kind that may be, by node, with that crash vector (of kinds that have these). Of a Recovery the vector's entry of node must not be {0, 0}.
func msgOf(c api.Config, k api.Kind, node int, v api.Vector) api.Msg {
	m := api.Msg{Kind: k}
	if k != api.KindRequest && k != api.KindQuery {
		m.Node = node
	}
	if !isClients(k) {
		m.Vector = v
	}
	whole := api.Entry{Client: 3, Number: 5, Op: api.Op{Kind: api.OpRead, Slot: 7}}
	name := api.Entry{Client: 3, Number: 5}
	switch k {
	case api.KindRecovery, api.KindRequest, api.KindQuery:
	default:
		m.View = node + 2*c.F + 1
	}
	switch k {
	case api.KindRequest, api.KindQuery:
		m.Entry = whole
	case api.KindReply:
		m.Entry, m.Place, m.Result = name, 1, api.Result{Code: api.ResNone, Slot: 7}
	case api.KindTold:
		m.Entry, m.Commit, m.Result = name, 1, api.Result{Code: api.ResNone, Slot: 7}
	case api.KindPrepare:
		m.Entry, m.Place, m.Commit = whole, 1, 1
	case api.KindCommit:
		m.Commit = 1
	case api.KindDoViewChange, api.KindStartView, api.KindNewState:
		m.Log, m.Commit = logOf(1), 1
	case api.KindRecovery:
		m.Draw = v[node]
	case api.KindRecoveryResponse:
		m.Log, m.Commit, m.Draw = logOf(1), 1, lo(8)
	}
	return m
}

// someMsg: one that may be.
func someMsg(r *rand.Rand, c api.Config) api.Msg {
	v, node := someVector(r, c), r.IntN(2*c.F+1)
	if isZero(v[node]) && r.IntN(2) == 0 {
		v[node] = lo(1)
	}
	m := msgOf(c, pick(r, allKinds()...), node, v)
	for message.Check(c, m) != api.OK { // a Recovery without a draw
		m = msgOf(c, pick(r, allKinds()...), node, v)
	}
	return m
}

func first(t *testing.T, c api.Config, self int) api.State {
	t.Helper()
	s, e := core.First(c, self)
	if e != api.OK {
		t.Fatal(e)
	}
	return s
}
