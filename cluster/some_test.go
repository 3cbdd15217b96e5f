package cluster_test

import (
	"math"
	"math/rand/v2"
	"slices"
	"testing"

	"amnesia/api"
	"amnesia/cluster"
	"amnesia/message"
)

// Setups, events and made-up messages at random.

var edges = []int{math.MinInt, math.MinInt + 1, -1 << 32, -256, -2, -1, 0, 1, 2, 3, 4, 5, 6, 7, 8, 15, 16, 22, 23, 255, 256, 257, 1<<32 - 1, 1 << 32, math.MaxInt - 1, math.MaxInt}

func someSetup(r *rand.Rand) api.Setup {
	c := pick(r, three, three, five, seven, configs()[3], configs()[4])
	c.Room, c.Patience = pick(r, c.Room, 1, 2, 12, 256), pick(r, c.Patience, 6, 6)
	setup := api.Setup{Config: c}
	for range pick(r, 0, 1, 2, 3, 3, 3, 16) {
		setup.Clients = append(setup.Clients, api.ClientSetup{Number: pick(r, 0, 0, 0, 7, math.MaxInt, math.MaxInt-1, math.MaxInt-3)})
	}
	return setup
}

func someOp(r *rand.Rand) api.Op {
	return pick(r, write(r.IntN(3), pick(r, "", "a", "b")), write(1023, "z"), api.Op{Kind: api.OpAppend, Value: "c"}, read(r.IntN(3)), count)
}

func someCut(r *rand.Rand) int {
	if r.IntN(30) > 0 {
		return 0
	}
	return 1 + r.IntN(5)
}

// someEvent: mostly one that may be, and one that does something.
func someEvent(t *testing.T, r *rand.Rand, setup api.Setup, u *cluster.Cluster) api.Event {
	t.Helper()
	n := 2*setup.Config.F + 1
	node, client := r.IntN(n), r.IntN(len(setup.Clients)+1)
	index := pick(r, 0, r.IntN(50), r.IntN(50), r.IntN(50), math.MaxInt-r.IntN(9))
	switch k := r.IntN(100); {
	case k < 8:
		return submit(client, someOp(r))
	case k < 11:
		return retry(client)
	case k < 50:
		return deliver(index, someCut(r))
	case k < 53:
		return drop(index)
	case k < 57:
		return copyOf(index)
	case k < 60:
		return spoilt(index, r.IntN(80), 1+r.IntN(255))
	case k < 65:
		return inject(node, pick(r, r.IntN(n), 7), someBytes(t, r, setup, u, node))
	case k < 80:
		return tick(node, someCut(r))
	case k < 81:
		return crash(node)
	case k < 88:
		return restart(node, pick(r, lo(r.Uint64N(9)), api.Draw{Hi: r.Uint64N(3)}), someCut(r))
	case k < 93:
		return rounds(pick(r, 1, 1, 2, 5, 9))
	case k < 97:
		return query(client, node, pick(r, read(r.IntN(3)), count))
	}
	return wildEvent(r)
}

// wildEvent: anything at all.
func wildEvent(r *rand.Rand) api.Event {
	e := api.Event{
		Kind: api.EventKind(pick(r, 1+r.IntN(12), 1+r.IntN(12), 1+r.IntN(12), pick(r, edges...))),
		Node: pick(r, 0, 1, pick(r, edges...)), Client: pick(r, 0, pick(r, edges...)), Index: pick(r, 0, pick(r, edges...)), At: pick(r, 0, pick(r, edges...)),
		Count: pick(r, 1, pick(r, edges...)), Cut: pick(r, 0, pick(r, edges...)), Draw: pick(r, api.Draw{}, lo(1), api.Draw{Hi: math.MaxUint64, Lo: math.MaxUint64}),
		Op: pick(r, append(wrongOps(), someOp(r), someOp(r), someOp(r))...), Bytes: make([]byte, pick(r, 0, 0, 1, 20, 32768, 32769)),
	}
	if e.Kind == api.EventRound {
		e.Count = min(e.Count, 8)
	}
	return e
}

// someBytes: anything, a frame that is under way, or a forgery whose sum is right.
func someBytes(t *testing.T, r *rand.Rand, setup api.Setup, u *cluster.Cluster, node int) []byte {
	t.Helper()
	pool := u.Pool()
	switch k := r.IntN(4); {
	case k == 0:
		b := make([]byte, r.IntN(60))
		for i := range b {
			b[i] = byte(r.IntN(256))
		}
		return b
	case k == 1 && len(pool) > 0:
		return pick(r, pool...).Bytes
	}
	s, _ := u.Look(node)
	b, _ := message.Encode(setup.Config, someMsg(r, setup.Config, s))
	return b
}

// someMsg: a message, mostly one that may be and that this state does something about.
func someMsg(r *rand.Rand, c api.Config, s api.State) api.Msg {
	n := 2*c.F + 1
	k := api.Kind(1 + r.IntN(14))
	if k == api.KindRequest || k == api.KindReply || k == api.KindQuery || k == api.KindTold {
		return someClientMsg(r, c, k)
	}
	m := api.Msg{Kind: k, Node: r.IntN(n), Vector: make(api.Vector, n)}
	copy(m.Vector, s.Vector)
	if r.IntN(4) == 0 {
		m.Vector[r.IntN(n)] = lo(r.Uint64N(9))
	}
	m.View = max(0, min(pick(r, s.View, s.View, s.View, s.View+1, s.View-1, s.View+r.IntN(9), 1<<32-r.IntN(9)), 1<<32))
	end := min(len(s.Log), c.Room-1)
	switch k {
	case api.KindPrepare:
		m.Node, m.Entry, m.Place, m.Commit = m.View%n, entry(r.IntN(4), 1+r.IntN(20), someOp(r)), 1+r.IntN(end+1), r.IntN(end+2)
	case api.KindPrepareOK:
		m.Place = r.IntN(end + 2)
	case api.KindCommit:
		m.Node, m.Commit = m.View%n, r.IntN(end+2)
	case api.KindStartViewChange:
		m.View = max(1, m.View)
	case api.KindDoViewChange:
		m.View = max(1, m.View)
		m.Last = r.IntN(m.View)
		someLog(r, c, s, &m)
	case api.KindStartView:
		m.View = max(1, m.View)
		m.Node = m.View % n
		someLog(r, c, s, &m)
	case api.KindRecovery:
		m.View, m.Vector[m.Node] = 0, lo(1+r.Uint64N(9))
		m.Draw = m.Vector[m.Node]
	case api.KindRecoveryResponse:
		m.Draw = lo(1 + r.Uint64N(9))
		if s.Status == api.StatusRecovering {
			m.Draw = s.Vector[s.Self]
		}
		if m.View%n == m.Node {
			someLog(r, c, s, &m)
		}
	case api.KindNewState:
		someLog(r, c, s, &m)
	}
	return m
}

func someClientMsg(r *rand.Rand, c api.Config, k api.Kind) api.Msg {
	m := api.Msg{Kind: k, Entry: entry(r.IntN(16), pick(r, 1+r.IntN(5), math.MaxInt), someOp(r))}
	switch k {
	case api.KindQuery:
		m.Entry.Op, m.Place = pick(r, read(0), count), r.IntN(2)
	case api.KindReply:
		m.Entry.Op, m.Place, m.Result = api.Op{}, 1, api.Result{Code: api.ResCount}
	case api.KindTold:
		m.Entry.Op, m.Commit, m.Result = api.Op{}, 1, api.Result{Code: api.ResCount}
	}
	return m
}

// someLog: a piece of the state's own, or another one; with a commit number.
func someLog(r *rand.Rand, c api.Config, s api.State, m *api.Msg) {
	m.Log = slices.Clone(s.Log[:r.IntN(len(s.Log)+1)])
	if r.IntN(2) == 0 {
		m.Log = nil
		for i := range r.IntN(min(c.Room, 5) + 1) {
			m.Log = append(m.Log, entry(r.IntN(3), 3*i+1+r.IntN(3), someOp(r)))
		}
	}
	m.Commit = r.IntN(len(m.Log) + 1)
}
