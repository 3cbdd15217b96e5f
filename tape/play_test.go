package tape_test

import (
	"math/rand/v2"
	"slices"
	"testing"

	"amnesia/api"
	"amnesia/cluster"
	"amnesia/tape"
)

// Runs of a cluster, with all that is seen of them, and a tape on which each event is laid down as it happens.

type play struct {
	t        *testing.T
	setup    api.Setup
	u        *cluster.Cluster
	tape     *tape.Tape
	events   []api.Event
	rows     []api.Seen
	behind   []int        // how many rows there are behind so many events
	packets  []api.Packet // all that were sent
	draws    []api.Draw   // by node: the last one
	faithful bool         // the premises (b) and (c) are kept
}

func playing(t *testing.T, s api.Setup) *play {
	t.Helper()
	u, e := cluster.New(s)
	if e != api.OK {
		t.Fatal(e)
	}
	return &play{t: t, setup: s, u: u, tape: taped(t, s), behind: []int{0}, draws: make([]api.Draw, 2*s.Config.F+1)}
}

func (p *play) do(event api.Event) {
	p.t.Helper()
	seen, e := p.u.Do(event)
	if e != api.OK {
		p.t.Fatalf("%d: %+v", e, event)
	}
	if e := p.tape.Add(event); e != api.OK {
		p.t.Fatalf("%d: %+v", e, event)
	}
	for _, row := range seen {
		switch row.Kind {
		case api.SeenSent:
			p.packets = append(p.packets, row.Packet)
		case api.SeenUp:
			p.draws[row.Node] = row.Draw
		}
	}
	p.events = append(p.events, event)
	p.rows = append(p.rows, seen...)
	p.behind = append(p.behind, len(p.rows))
}

func write(slot int, value string) api.Op {
	return api.Op{Kind: api.OpWrite, Slot: slot, Value: value}
}

func read(slot int) api.Op { return api.Op{Kind: api.OpRead, Slot: slot} }

var count = api.Op{Kind: api.OpCount}

func submit(client int, op api.Op) api.Event {
	return api.Event{Kind: api.EventSubmit, Client: client, Op: op}
}

func round(n int) api.Event { return api.Event{Kind: api.EventRound, Count: n} }

func crash(node int) api.Event { return api.Event{Kind: api.EventCrash, Node: node} }

func restart(node int, d api.Draw) api.Event {
	return api.Event{Kind: api.EventRestart, Node: node, Draw: d}
}

// moves: something happens. An event's fields that are not used have whatever in them.
func (p *play) moves(r *rand.Rand) {
	p.t.Helper()
	e := full(0)
	e.Node, e.Client, e.Cut = r.IntN(len(p.draws)), r.IntN(len(p.setup.Clients)), 0
	e.Index, e.At = pick(r, 0, r.IntN(10), r.IntN(100)), r.IntN(200)
	d := p.draws[e.Node]
	e.Draw = pick(r, api.Draw{Hi: d.Hi, Lo: d.Lo + 1 + r.Uint64N(3)}, api.Draw{Hi: d.Hi + 1, Lo: r.Uint64N(5)})
	if !p.faithful && r.IntN(4) == 0 {
		e.Draw = pick(r, api.Draw{Lo: 1}, api.Draw{Lo: r.Uint64N(4) + 1})
	}
	if r.IntN(250) == 0 {
		e.Cut = 1 + r.IntN(5)
	}
	e.Count = 1 + r.IntN(255)
	switch k := r.IntN(1000); {
	case k < 40:
		e.Kind, e.Op = api.EventSubmit, pick(r, write(r.IntN(4), pick(r, "a", "b", "")), api.Op{Kind: api.OpAppend, Value: "x"}, read(r.IntN(4)), count)
	case k < 60:
		e.Kind, e.Op = api.EventQuery, pick(r, read(r.IntN(4)), count)
	case k < 80:
		e.Kind = api.EventRetry
	case k < 86:
		e.Kind = api.EventCrash
	case k < 110:
		e.Kind = api.EventRestart
	case k < 350:
		e.Kind = api.EventTick
	case k < 370:
		e.Kind = api.EventDrop
	case k < 390:
		e.Kind = api.EventCopy
	case k < 395:
		e.Kind = api.EventSpoil
	case k < 425:
		e.Kind = api.EventInject
		p.makeUp(r, &e)
	case k < 480 && len(p.u.Pool()) < 200:
		e.Kind, e.Count = api.EventRound, 1
	default:
		e.Kind = api.EventDeliver
	}
	p.do(e)
}

// makeUp: of a packet that is made up: one that was sent comes once more, or any bytes.
func (p *play) makeUp(r *rand.Rand, e *api.Event) {
	e.At = r.IntN(len(p.draws))
	q := api.Packet{From: e.At, To: e.Node, Bytes: pick(r, nil, e.Bytes, make([]byte, 100+r.IntN(16285)))}
	if len(p.packets) > 0 && r.IntN(3) > 0 {
		q = pick(r, p.packets...)
	}
	if q.To < api.MaxNodes {
		e.Node, e.At, e.Bytes = q.To, q.From, q.Bytes
	}
}

// someRun: a run of so many events.
func someRun(t *testing.T, r *rand.Rand, events int, faithful bool) *play {
	t.Helper()
	c := api.Config{F: pick(r, 1, 1, 2, 3), Room: pick(r, 3, 20, 256), Patience: 6 + r.IntN(3), Unguarded: !faithful && r.IntN(4) == 0}
	p := playing(t, setupOf(c, []int{0, 5, 0, 1 << 40}[:1+r.IntN(4)]...))
	p.faithful = faithful
	for len(p.events) < events {
		p.moves(r)
	}
	return p
}

func sameRow(a, b api.Seen) bool {
	return a.Kind == b.Kind && a.Event == b.Event && a.Node == b.Node && a.View == b.View && a.Place == b.Place && a.Draw == b.Draw && a.Entry == b.Entry && a.Result == b.Result &&
		slices.Equal(a.Log, b.Log) && a.Packet.From == b.Packet.From && a.Packet.To == b.Packet.To && slices.Equal(a.Packet.Bytes, b.Packet.Bytes)
}

// expectPlayed: these events are played to these rows.
func expectPlayed(t *testing.T, what string, s api.Setup, events []api.Event, want []api.Seen) {
	t.Helper()
	rows, at, e := cluster.Run(s, events)
	if e != api.OK || at != len(events) || !slices.EqualFunc(rows, want, sameRow) {
		t.Fatalf("%s: %d events are played up to %d (%d), to %d rows, want %d", what, len(events), at, e, len(rows), len(want))
	}
}
