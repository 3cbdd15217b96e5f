package explore_test

import (
	"math/rand/v2"
	"slices"
	"testing"

	"amnesia/api"
	"amnesia/cluster"
	"amnesia/ledger"
	"amnesia/message"
)

// Things drawn.

// replayed: an operation on an empty ledger.
func replayed(op api.Op) ([]api.Cell, api.Result, api.Errno) {
	cells, results := ledger.Replay([]api.Op{op})
	return cells, results[0], ledger.Check(op)
}

func kindName(k api.EventKind) string {
	return map[api.EventKind]string{api.EventSubmit: "submit", api.EventDeliver: "deliver", api.EventDrop: "drop", api.EventCopy: "copy", api.EventTick: "tick", api.EventCrash: "crash", api.EventRestart: "restart"}[k]
}

func someOp(r *rand.Rand) api.Op {
	return pick(r, write(r.IntN(3), pick(r, "", "a", "b")), write(1023, "z"), add("c"), read(r.IntN(3)), count)
}

func wrongOp(r *rand.Rand) api.Op {
	return pick(r, api.Op{}, api.Op{Kind: 5}, write(-1, ""), write(1024, "a"), write(0, string(make([]byte, 65))), api.Op{Kind: api.OpAppend, Slot: 1}, read(1024), api.Op{Kind: api.OpRead, Value: "a"}, api.Op{Kind: api.OpCount, Slot: 1})
}

func someDraw(r *rand.Rand) api.Draw {
	return pick(r, lo(1), lo(1+r.Uint64N(4)), lo(1+r.Uint64N(4)), api.Draw{Hi: 1}, api.Draw{Lo: ^uint64(0)}, api.Draw{Hi: 3, Lo: ^uint64(0)}, last)
}

// someScope: one that may be.
func someScope(r *rand.Rand) api.Scope {
	c := api.Config{F: pick(r, 1, 1, 1, 1, 2), Room: pick(r, 1, 2, 4, 4), Patience: 6, Unguarded: r.IntN(3) == 0}
	p := api.Scope{Setup: setupOf(c), Ticks: pick(r, 0, 1, 1, 2, 12), Drops: pick(r, 0, 0, 1, 2), Copies: pick(r, 0, 0, 1, 2), Crashes: pick(r, 0, 1, 1, 2, 3)}
	for range pick(r, 0, 1, 1, 2, 2, 3) {
		p.Setup.Clients = append(p.Setup.Clients, api.ClientSetup{Number: pick(r, 0, 0, 0, 7, greatest-1, greatest)})
	}
	for range pick(r, 0, 1, 2, 2, 3) {
		p.Ops = append(p.Ops, someOp(r))
	}
	p.Before = someEvents(r, p.Setup, pick(r, 0, 3, 10, 15, 25))
	if r.IntN(3) == 0 {
		p.Before = append(p.Before, inject(r.IntN(3), r.IntN(3), someLie(r, c)))
		if r.IntN(4) == 0 {
			p.Before = append(p.Before, round(1))
		}
	}
	return p
}

// someLie: a StartView with entries that nobody asked for, or one without any: mostly it is for others, or too late, or does no harm yet.
func someLie(r *rand.Rand, c api.Config) []byte {
	m := api.Msg{Kind: api.KindStartView, View: 1 + r.IntN(5), Vector: make(api.Vector, 2*c.F+1)}
	m.Node = m.View % (2*c.F + 1)
	if r.IntN(4) > 0 {
		m.Log, m.Commit = []api.Entry{entry(5, 1, someOp(r))}, 1
	}
	b, _ := message.Encode(c, m)
	return b
}

// spoiltScope: one that may not be, mostly.
func spoiltScope(r *rand.Rand, p api.Scope) api.Scope {
	wrong := pick(r, -1, 13, 13, 14, -greatest, greatest)
	switch r.IntN(8) {
	case 0:
		p.Depth = wrong
	case 1:
		p.Ticks = wrong
	case 2:
		p.Drops = wrong
	case 3:
		p.Copies = wrong
	case 4:
		p.Crashes = wrong
	case 5:
		p.Ops = append(slices.Clip(p.Ops), wrongOp(r))
	case 6:
		p.Before = append(slices.Clip(p.Before), tick(-1))
	case 7:
		p.Setup.Config.Room = pick(r, 0, 257, 1)
	}
	return p
}

// someEvents: any that a cluster takes, if it may be: with forgeries, spoilt bytes, cuts, draws that are used again, and fields that are not used.
func someEvents(r *rand.Rand, s api.Setup, length int) []api.Event {
	u, e := cluster.New(s)
	var l []api.Event
	for e == api.OK && len(l) < length {
		event := someEvent(r, s, u)
		if _, e := u.Do(event); e == api.OK {
			l = append(l, event)
		}
	}
	return l
}

func someEvent(r *rand.Rand, s api.Setup, u *cluster.Cluster) api.Event {
	n := 2*s.Config.F + 1
	node, client, index := r.IntN(n), r.IntN(len(s.Clients)+1), pick(r, 0, r.IntN(9), r.IntN(9), greatest-r.IntN(9))
	cut := pick(r, 0, 0, 0, 0, 0, 0, 1, 2)
	switch r.IntN(22) {
	case 0, 1:
		return submit(client, someOp(r))
	case 2:
		return query(client, node, pick(r, read(r.IntN(3)), count))
	case 3, 4, 5, 6, 7, 8, 9:
		e := deliver(index)
		e.Cut = pick(r, 0, 0, cut)
		return e
	case 10:
		return drop(index)
	case 11:
		return twice(index)
	case 12:
		return spoil(index, r.IntN(60), 1+r.IntN(255))
	case 13:
		return inject(pick(r, r.IntN(n), 7), node, someBytes(r, s, u))
	case 14, 15, 16:
		e := tick(node)
		e.Cut, e.Client, e.Draw = pick(r, 0, 0, cut), -5, last
		return e
	case 17:
		return crash(node)
	case 18, 19:
		e := restart(node, someDraw(r))
		e.Cut = cut
		return e
	case 20:
		return round(1 + r.IntN(3))
	}
	return pick(r, retry(client), repeated(1, crash(r.IntN(n)))[0])
}

// someBytes: anything, a frame that is under way, or a forgery whose sum is right.
func someBytes(r *rand.Rand, s api.Setup, u *cluster.Cluster) []byte {
	if pool := u.Pool(); len(pool) > 0 && r.IntN(3) == 0 {
		return pick(r, pool...).Bytes
	}
	c := s.Config
	n := 2*c.F + 1
	m := api.Msg{Kind: pick(r, api.KindStartView, api.KindNewState, api.KindCommit, api.KindPrepareOK, api.KindDoViewChange, api.KindStartViewChange), View: 1 + r.IntN(2), Vector: make(api.Vector, n)}
	m.Node = pick(r, r.IntN(n), m.View%n)
	m.Vector[r.IntN(n)] = pick(r, lo(0), lo(1), lo(2))
	switch m.Kind {
	case api.KindCommit:
		m.Commit = r.IntN(2)
	case api.KindPrepareOK:
		m.Place = r.IntN(2)
	case api.KindDoViewChange, api.KindStartView, api.KindNewState:
		if r.IntN(2) == 0 {
			m.Log = []api.Entry{entry(r.IntN(2), 1, someOp(r))}
			m.Commit = r.IntN(2)
		}
	}
	b, e := message.Encode(c, m)
	if e != api.OK {
		return []byte{1, 2, 3}
	}
	return b
}

// someWalk: a script of moves, at most so many.
func someWalk(t *testing.T, r *rand.Rand, p api.Scope, length int) []api.Event {
	t.Helper()
	var script []api.Event
	for range length {
		l := moves(t, p, script)
		if len(l) == 0 {
			return script
		}
		script = append(script, pick(r, l...))
	}
	return script
}

// turnedOver: with two events, side by side, in the other order: what is delivered first leaves a place.
func turnedOver(r *rand.Rand, script []api.Event) []api.Event {
	l := slices.Clone(script)
	if len(l) < 2 {
		return l
	}
	i := r.IntN(len(l) - 1)
	l[i], l[i+1] = l[i+1], l[i]
	gone := func(e api.Event) bool { return e.Kind == api.EventDeliver || e.Kind == api.EventDrop }
	if gone(l[i+1]) && gone(l[i]) {
		if l[i].Index >= l[i+1].Index {
			l[i].Index++
		} else {
			l[i+1].Index--
		}
	}
	return l
}
