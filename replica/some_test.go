package replica_test

import (
	"math"
	"math/rand/v2"
	"slices"
	"testing"

	"amnesia/api"
	"amnesia/replica"
)

// States, messages and calls at random.

func pick[T any](r *rand.Rand, l ...T) T { return l[r.IntN(len(l))] }

func within(x, least, most int) int { return max(least, min(x, most)) }

// someDraw: often the same, by either half.
func someDraw(r *rand.Rand) api.Draw {
	return pick(r, api.Draw{}, lo(1), lo(2), lo(math.MaxUint64), api.Draw{Hi: 1}, api.Draw{Hi: 1, Lo: 1}, api.Draw{Hi: math.MaxUint64, Lo: math.MaxUint64})
}

func someVector(r *rand.Rand, c api.Config) api.Vector {
	v := make(api.Vector, 2*c.F+1)
	for i := range v {
		v[i] = someDraw(r)
	}
	return v
}

// someVectorNear: mostly the same; else with some entries above or below.
func someVectorNear(r *rand.Rand, v api.Vector) api.Vector {
	v = slices.Clone(v)
	for range pick(r, 0, 0, 0, 1, 2) {
		v[r.IntN(len(v))] = someDraw(r)
	}
	return v
}

func someOp(r *rand.Rand) api.Op {
	return pick(r, write(r.IntN(2), pick(r, "", "a", "b")), write(1023, "z"), api.Op{Kind: api.OpAppend, Value: "c"}, read(r.IntN(3)), count)
}

// someLog: one that may be, often full, not longer than most.
func someLog(r *rand.Rand, most int) []api.Entry {
	var l []api.Entry
	most = min(most, 5)
	for i := range pick(r, most, r.IntN(most+1)) {
		l = append(l, api.Entry{Client: r.IntN(3) * 5, Number: 3*i + 1 + r.IntN(3), Op: someOp(r)})
	}
	return l
}

// someVoters: some of the others, rising.
func someVoters(r *rand.Rand, c api.Config, self int) []int {
	var l []int
	for node := range 2*c.F + 1 {
		if node != self && r.IntN(2) == 0 {
			l = append(l, node)
		}
	}
	return l
}

func someView(r *rand.Rand) int { return pick(r, r.IntN(10), r.IntN(10), 1<<32-r.IntN(8)) }

// someState: one that may be, often at the end of its patience.
func someState(r *rand.Rand, c api.Config) api.State {
	n := 2*c.F + 1
	s := api.State{Self: r.IntN(n), Status: pick(r, api.StatusNormal, api.StatusNormal, api.StatusChange, api.StatusChange, api.StatusRecovering), Vector: someVector(r, c)}
	if s.Status == api.StatusRecovering {
		return someRecovering(r, c, s)
	}
	s.View = someView(r)
	if s.Status == api.StatusChange {
		s.View = max(s.View, 1)
	}
	if r.IntN(2) == 0 {
		s.Self = s.View % n
	}
	s.Log = someLog(r, c.Room)
	s.Commit = r.IntN(len(s.Log) + 1)
	s.Idle = pick(r, r.IntN(c.Patience), c.Patience-1)
	if s.Status == api.StatusNormal {
		return someNormal(r, c, s)
	}
	return someChanging(r, c, s)
}

func someRecovering(r *rand.Rand, c api.Config, s api.State) api.State {
	if isZero(s.Vector[s.Self]) {
		s.Vector[s.Self] = lo(3)
	}
	for _, node := range someVoters(r, c, s.Self) {
		a := api.Answer{Node: node, Draw: s.Vector[node], View: someView(r)}
		if a.View%(2*c.F+1) == node {
			a.Log = someLog(r, c.Room)
			a.Commit = r.IntN(len(a.Log) + 1)
		}
		s.Answers = append(s.Answers, a)
	}
	return s
}

// someNormal: the state as a normal one, with votes if it is its view's primary.
func someNormal(r *rand.Rand, c api.Config, s api.State) api.State {
	s.Last = s.View
	if s.Self != s.View%(2*c.F+1) {
		return s
	}
	s.Idle = 0
	for _, node := range someVoters(r, c, s.Self) {
		if len(s.Log) > 0 {
			s.Acks = append(s.Acks, api.Ack{Node: node, Draw: s.Vector[node], Place: 1 + r.IntN(len(s.Log))})
		}
	}
	return s
}

// someChanging: the state as a changing one, with votes.
func someChanging(r *rand.Rand, c api.Config, s api.State) api.State {
	s.Last = pick(r, 0, s.View-1, r.IntN(s.View))
	for _, node := range someVoters(r, c, s.Self) {
		s.Marks = append(s.Marks, api.Mark{Node: node, Draw: s.Vector[node]})
	}
	for _, node := range someVoters(r, c, s.Self) {
		if s.Self == s.View%(2*c.F+1) && len(s.Ballots) < c.F-1 {
			b := api.Ballot{Node: node, Draw: s.Vector[node], Last: pick(r, 0, s.View-1, r.IntN(s.View)), Log: someLog(r, c.Room)}
			b.Commit = r.IntN(len(b.Log) + 1)
			s.Ballots = append(s.Ballots, b)
		}
	}
	return s
}

// someEntry: one that may be, often one that the log has, or near to it.
func someEntry(r *rand.Rand, log []api.Entry) api.Entry {
	e := api.Entry{Client: r.IntN(4) * 5, Number: pick(r, 1+r.IntN(20), math.MaxInt), Op: someOp(r)}
	if len(log) > 0 && r.IntN(3) > 0 {
		near := pick(r, log...)
		e.Client, e.Number = near.Client, max(1, near.Number+r.IntN(3)-1)
	}
	return e
}

// someMsg: a message of the kind that may be, mostly one that this state does something about.
func someMsg(r *rand.Rand, c api.Config, s api.State, k api.Kind) api.Msg {
	if isClients(k) {
		return someClientMsg(r, c, s, k)
	}
	n, end := 2*c.F+1, len(s.Log)
	m := api.Msg{Kind: k, Vector: someVectorNear(r, s.Vector)}
	m.Node = (s.Self + pick(r, r.IntN(n), 1+r.IntN(n-1))) % n
	m.View = within(pick(r, s.View, s.View, s.View, s.View, s.View-1, s.View+1, s.View+n-s.View%n+s.Self, someView(r)), 0, 1<<32)
	switch k {
	case api.KindPrepare:
		m.Node, m.Entry, m.Place, m.Commit = m.View%n, someEntry(r, s.Log), within(end+r.IntN(4)-1, 1, c.Room), r.IntN(min(c.Room, end+2)+1)
	case api.KindPrepareOK:
		m.Place = pick(r, r.IntN(c.Room+1), r.IntN(min(c.Room, end+1)+1))
	case api.KindCommit:
		m.Node, m.Commit = m.View%n, r.IntN(min(c.Room, end+2)+1)
	case api.KindStartViewChange:
		m.View = max(1, m.View)
	case api.KindDoViewChange:
		m.View = max(1, m.View)
		m.Last = within(pick(r, s.Last, s.Last, s.Last-1, s.Last+1, 0, m.View-1), 0, m.View-1)
		someMsgLog(r, c, s, &m)
	case api.KindStartView:
		m.View = max(1, m.View)
		m.Node = m.View % n
		someMsgLog(r, c, s, &m)
	case api.KindRecovery:
		if isZero(m.Vector[m.Node]) {
			m.Vector[m.Node] = lo(1)
		}
		m.View, m.Draw = 0, m.Vector[m.Node]
	case api.KindRecoveryResponse:
		someResponse(r, c, s, &m)
	case api.KindNewState:
		someMsgLog(r, c, s, &m)
	}
	return m
}

// someMsgLog: any, or a piece of the state's own.
func someMsgLog(r *rand.Rand, c api.Config, s api.State, m *api.Msg) {
	m.Log = someLog(r, c.Room)
	if r.IntN(3) == 0 {
		m.Log = slices.Clone(s.Log[:r.IntN(len(s.Log)+1)])
	}
	m.Commit = r.IntN(len(m.Log) + 1)
}

// someResponse: mostly to the state's own draw, often of a view that an answer of it is of, or of the sender's own.
func someResponse(r *rand.Rand, c api.Config, s api.State, m *api.Msg) {
	n := 2*c.F + 1
	m.Draw = pick(r, s.Vector[s.Self], s.Vector[s.Self], s.Vector[s.Self], someDraw(r))
	if isZero(m.Draw) {
		m.Draw = lo(1)
	}
	m.View = someView(r)
	if len(s.Answers) > 0 && r.IntN(2) == 0 {
		m.View = pick(r, s.Answers...).View
	}
	if r.IntN(2) == 0 {
		m.View = within(m.View-m.View%n+m.Node, 0, 1<<32)
	}
	if m.View%n == m.Node {
		someMsgLog(r, c, s, m)
	}
}

func someClientMsg(r *rand.Rand, c api.Config, s api.State, k api.Kind) api.Msg {
	m := api.Msg{Kind: k, Entry: someEntry(r, s.Log)}
	switch k {
	case api.KindQuery:
		m.Entry.Op, m.Place = pick(r, read(r.IntN(3)), read(1023), count), within(s.Commit+r.IntN(4)-2, 0, c.Room)
	case api.KindReply:
		m.Node, m.View, m.Entry.Op = r.IntN(2*c.F+1), someView(r), api.Op{}
		m.Place, m.Result = 1+r.IntN(c.Room), api.Result{Code: pick(r, api.ResWritten, api.ResTaken, api.ResFound), Slot: r.IntN(3), Value: "v"}
	case api.KindTold:
		m.Node, m.View, m.Entry.Op = r.IntN(2*c.F+1), someView(r), api.Op{}
		m.Commit, m.Result = r.IntN(c.Room+1), api.Result{Code: pick(r, api.ResNone, api.ResCount), Slot: r.IntN(3)}
	}
	return m
}

// A kind that there isn't stands for a tick.
const ticking api.Kind = -1

// someCall: mostly a message, now and then a tick.
func someCall(r *rand.Rand, c api.Config, s api.State) api.Msg {
	if r.IntN(6) == 0 {
		return api.Msg{Kind: ticking}
	}
	return someMsg(r, c, s, pick(r, kinds()...))
}

// some: a replica made by one of the three calls.
func some(t *testing.T, r *rand.Rand, c api.Config) *replica.Replica {
	t.Helper()
	switch r.IntN(10) {
	case 0:
		return first(t, c, r.IntN(2*c.F+1))
	case 1:
		made, _ := again(t, c, r.IntN(2*c.F+1), lo(1+r.Uint64N(3)))
		return made
	}
	return with(t, c, someState(r, c))
}

// walk: calls one behind the other, of replicas at random, each looked at: the state ahead of it and behind it, and what went out.
func walk(t *testing.T, seed uint64, look func(c api.Config, s api.State, m api.Msg, behind api.State, l []api.Packet)) {
	t.Helper()
	r := rand.New(rand.NewPCG(13, seed))
	for range 5000 {
		c := pick(r, configs()...)
		made := some(t, r, c)
		s := own(made.State())
		for range 6 {
			m := someCall(r, c, s)
			var l []api.Packet
			if m.Kind == ticking {
				l = tick(t, made)
			} else {
				l = handle(t, made, c, m)
			}
			behind := own(made.State())
			look(c, s, m, behind, l)
			s = behind
		}
	}
}
