package audit_test

import (
	"math/rand/v2"
	"slices"
	"testing"

	"amnesia/api"
	"amnesia/cluster"
	"amnesia/message"
)

// Runs of a cluster, with all that is seen of them; whoever watches is called behind each event.

type play struct {
	t       *testing.T
	setup   api.Setup
	u       *cluster.Cluster
	rows    []api.Seen
	packets []api.Packet // all that were sent
	draws   []api.Draw   // by node: the last one
	calm    bool         // nobody crashes while F others are crashed or recovering
	most    int          // so many requests at most are made
	made    int
	watch   func()
}

func playing(t *testing.T, c api.Config, clients int) *play {
	t.Helper()
	s := api.Setup{Config: c, Clients: make([]api.ClientSetup, clients)}
	u, e := cluster.New(s)
	if e != api.OK {
		t.Fatal(e)
	}
	return &play{t: t, setup: s, u: u, draws: make([]api.Draw, 2*c.F+1), watch: func() {}}
}

func (p *play) do(events ...api.Event) {
	p.t.Helper()
	for _, event := range events {
		seen, e := p.u.Do(event)
		if e != api.OK {
			p.t.Fatalf("%d: %+v", e, event)
		}
		for _, row := range seen {
			switch row.Kind {
			case api.SeenSent:
				p.packets = append(p.packets, row.Packet)
			case api.SeenUp:
				p.draws[row.Node] = row.Draw
			case api.SeenAsked:
				p.made++
			}
		}
		p.rows = append(p.rows, seen...)
		p.watch()
	}
}

// states: of those that are not crashed.
func (p *play) states() []api.State {
	var l []api.State
	for node := range p.draws {
		if s, on := p.u.Look(node); on {
			l = append(l, s)
		}
	}
	return l
}

// rounds: so many quiet ones, one by one.
func (p *play) rounds(count int) {
	p.t.Helper()
	for range count {
		p.do(round(1))
	}
}

func round(count int) api.Event { return api.Event{Kind: api.EventRound, Count: count} }

func submit(client int, op api.Op) api.Event {
	return api.Event{Kind: api.EventSubmit, Client: client, Op: op}
}

func tick(node, cut int) api.Event { return api.Event{Kind: api.EventTick, Node: node, Cut: cut} }

func crash(node int) api.Event { return api.Event{Kind: api.EventCrash, Node: node} }

func restart(node int, d api.Draw, cut int) api.Event {
	return api.Event{Kind: api.EventRestart, Node: node, Draw: d, Cut: cut}
}

func deliver(index, cut int) api.Event {
	return api.Event{Kind: api.EventDeliver, Index: index, Cut: cut}
}

// comes: a packet with these bytes comes at once.
func (p *play) comes(from, to int, bytes []byte) {
	p.t.Helper()
	p.do(api.Event{Kind: api.EventInject, Node: to, At: from, Bytes: bytes})
	p.do(deliver(len(p.u.Pool())-1, 0))
}

func (p *play) is(q api.Packet, k api.Kind) bool {
	m, e := message.Decode(p.setup.Config, q.Bytes)
	return e == api.OK && m.Kind == k
}

// gives: all that is under way to an address and of that kind comes.
func (p *play) gives(to int, k api.Kind) {
	p.t.Helper()
	for {
		at := slices.IndexFunc(p.u.Pool(), func(q api.Packet) bool { return q.To == to && p.is(q, k) })
		if at < 0 {
			return
		}
		p.do(deliver(at, 0))
	}
}

// late: all that was sent by that replica to that one, of that kind, comes once more.
func (p *play) late(from, to int, k api.Kind) {
	p.t.Helper()
	for _, q := range slices.Clone(p.packets) {
		if q.From == from && q.To == to && p.is(q, k) {
			p.comes(from, to, q.Bytes)
		}
	}
}

// clears: what is under way is lost.
func (p *play) clears() {
	p.t.Helper()
	for range p.u.Pool() {
		p.do(api.Event{Kind: api.EventDrop})
	}
}

// returns: a replica crashes, starts again with that draw, and is answered by all who can.
func (p *play) returns(node int, d api.Draw) {
	p.t.Helper()
	p.do(crash(node), restart(node, d, 0))
	for other := range p.draws {
		p.gives(other, api.KindRecovery)
	}
	p.gives(node, api.KindRecoveryResponse)
	if s, _ := p.u.Look(node); s.Status != api.StatusNormal {
		p.t.Fatal(node, "has not returned")
	}
}

// away: how many are crashed or recovering.
func (p *play) away() int {
	n := 0
	for node := range p.draws {
		if s, on := p.u.Look(node); !on || s.Status == api.StatusRecovering {
			n++
		}
	}
	return n
}

// mayCrash: mostly where at most F are then crashed or recovering.
func (p *play) mayCrash(r *rand.Rand) bool {
	return p.away() < p.setup.Config.F || !p.calm && r.IntN(20) == 0
}

func (p *play) cut(r *rand.Rand) int {
	if r.IntN(60) == 0 && p.mayCrash(r) {
		return 1 + r.IntN(5)
	}
	return 0
}

// fresh: a draw above all that a replica had.
func (p *play) fresh(r *rand.Rand, node int) api.Draw {
	d := p.draws[node]
	if r.IntN(4) == 0 {
		return api.Draw{Hi: d.Hi + 1, Lo: r.Uint64N(5)}
	}
	return api.Draw{Hi: d.Hi, Lo: d.Lo + 1 + r.Uint64N(3)}
}

// asks: a client that waits mostly goes on waiting.
func (p *play) asks(r *rand.Rand, client int) bool {
	look, _ := p.u.Client(client)
	return !look.Waits || r.IntN(6) == 0
}

// moves: something happens that keeps the premises (b) and (c).
func (p *play) moves(r *rand.Rand) {
	p.t.Helper()
	node, client := r.IntN(len(p.draws)), r.IntN(len(p.setup.Clients))
	switch k := r.IntN(1000); {
	case k < 40 && p.made < p.most && p.asks(r, client):
		p.do(submit(client, someOp(r)))
	case k < 60:
		p.do(api.Event{Kind: api.EventQuery, Client: client, Node: node, Op: pick(r, read(r.IntN(3)), count)})
	case k < 80:
		p.do(api.Event{Kind: api.EventRetry, Client: client})
	case k < 90 && p.mayCrash(r):
		p.do(crash(node))
	case k < 130:
		p.do(restart(node, p.fresh(r, node), p.cut(r)))
	case k < 350:
		p.do(tick(node, p.cut(r)))
	case k < 370:
		p.do(api.Event{Kind: api.EventDrop, Index: r.IntN(50)})
	case k < 390:
		p.do(api.Event{Kind: api.EventCopy, Index: r.IntN(50)})
	case k < 395:
		p.do(api.Event{Kind: api.EventSpoil, Index: r.IntN(50), At: r.IntN(200), Count: 1 + r.IntN(255)})
	case k < 420 && len(p.packets) > 0:
		if q := pick(r, p.packets...); q.To < api.MaxNodes {
			p.comes(q.From, q.To, q.Bytes)
		}
	case k < 435 && len(p.u.Pool()) < 200:
		p.do(round(1))
	default:
		p.do(deliver(pick(r, 0, r.IntN(10), r.IntN(100)), p.cut(r)))
	}
}

// someOp: few slots, so that they meet, the greatest among them, behind which nothing is appended.
func someOp(r *rand.Rand) api.Op {
	slot := pick(r, 0, 1, 1, 1023)
	return pick(r, write(slot, pick(r, "a", "b", "")), write(slot, pick(r, "a", "c")), add(pick(r, "x", "a")), read(slot), count)
}
