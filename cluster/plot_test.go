package cluster_test

import (
	"math/rand/v2"
	"slices"
	"testing"

	"amnesia/api"
	"amnesia/message"
)

// Plots: runs that keep the premises, and go for what is dangerous: replicas call for views, crash and come back at once, entries are committed by as few as can be, and votes of lives that are over come late.

// plotter plays them.
type plotter struct {
	*runner
	next []func() // what is likely to come next
}

func plotting(t *testing.T, r *rand.Rand, setup api.Setup, met map[string]int) *plotter {
	t.Helper()
	p := &plotter{runner: running(t, r, setup, met)}
	p.mood = mood{lazy: -1}
	return p
}

// gives: what is under way, and is so, comes, the first first, as long as there is some.
func (p *plotter) gives(is func(api.Packet, api.Msg) bool) {
	p.t.Helper()
	for {
		at := slices.IndexFunc(p.u.Pool(), func(q api.Packet) bool {
			m, e := message.Decode(p.setup.Config, q.Bytes)
			return e == api.OK && is(q, m)
		})
		if at < 0 {
			return
		}
		p.do(deliver(at, 0))
	}
}

// suspects: a replica hears nothing till its patience is at its end.
func (p *plotter) suspects(node int) {
	p.t.Helper()
	s, on := p.u.Look(node)
	for range p.setup.Config.Patience {
		now, _ := p.u.Look(node)
		if !on || now.View > s.View {
			return
		}
		p.do(tick(node, 0))
	}
}

// comesBack: a replica crashes, starts again, and is answered by all who can; mostly only where enough can.
func (p *plotter) comesBack(node int) {
	p.t.Helper()
	can := p.normal()
	if s, _ := p.u.Look(node); s.Status == api.StatusNormal {
		can--
	}
	if can <= p.setup.Config.F && p.r.IntN(30) > 0 {
		return
	}
	p.do(crash(node))
	p.startsAgain(node)
	d := p.lives[node].draw
	p.gives(func(q api.Packet, m api.Msg) bool { return m.Kind == api.KindRecovery && m.Node == node && m.Draw == d })
	p.gives(func(q api.Packet, m api.Msg) bool {
		return m.Kind == api.KindRecoveryResponse && q.To == node && m.Draw == d
	})
}

// others: so many at random, but that one.
func (p *plotter) others(node, many int) []int {
	var l []int
	for _, other := range p.r.Perm(len(p.lives)) {
		if other != node && len(l) < many {
			l = append(l, other)
		}
	}
	return l
}

// commits: a request comes to all, and what its primary says to F others, and their answers.
func (p *plotter) commits(client int) {
	p.t.Helper()
	if p.requests == 0 {
		return
	}
	p.requests--
	p.do(submit(client, someOp(p.r)))
	p.gives(func(q api.Packet, m api.Msg) bool { return m.Kind == api.KindRequest })
	few := p.others(p.r.IntN(len(p.lives)), p.setup.Config.F+p.r.IntN(2))
	p.gives(func(q api.Packet, m api.Msg) bool { return m.Kind == api.KindPrepare && slices.Contains(few, q.To) })
	p.gives(func(q api.Packet, m api.Msg) bool {
		return m.Kind == api.KindPrepareOK && slices.Contains(few, q.From)
	})
	p.gives(func(q api.Packet, m api.Msg) bool { return m.Kind == api.KindReply })
}

// changes: all that is said of views comes among some, till there is no more.
func (p *plotter) changes() {
	p.t.Helper()
	some := p.others(-1, p.setup.Config.F+1+p.r.IntN(p.setup.Config.F+1))
	p.gives(func(q api.Packet, m api.Msg) bool {
		view := m.Kind == api.KindStartViewChange || m.Kind == api.KindDoViewChange || m.Kind == api.KindStartView
		return view && slices.Contains(some, q.From) && slices.Contains(some, q.To)
	})
}

// late: something that was sent before, mostly by a life that is over, and mostly what counts, comes once more.
func (p *plotter) late() {
	p.t.Helper()
	for range 40 {
		if len(p.packets) == 0 {
			return
		}
		q := pick(p.r, p.packets...)
		m, _ := message.Decode(p.setup.Config, q.Bytes)
		if q.To >= 7 || q.From >= 7 || m.Kind == api.KindCommit || m.Kind == api.KindRecovery {
			continue
		}
		if m.Vector[m.Node] == p.lives[m.Node].draw && p.r.IntN(10) > 0 {
			continue
		}
		p.do(inject(q.To, q.From, q.Bytes))
		p.do(deliver(len(p.u.Pool())-1, 0))
		if p.r.IntN(2) == 0 {
			p.next = append(p.next, func() { p.comesBack(q.To) })
		}
		return
	}
}

// clears: what is under way is lost (it may come late).
func (p *plotter) clears() {
	p.t.Helper()
	for range p.u.Pool() {
		p.do(drop(0))
	}
}

// goesOn: one move of the plot.
func (p *plotter) goesOn() {
	p.t.Helper()
	if len(p.u.Pool()) > 40 {
		p.clears()
	}
	if len(p.next) > 0 {
		do := p.next[0]
		p.next = p.next[1:]
		do()
		return
	}
	node := p.r.IntN(len(p.lives))
	switch k := p.r.IntN(20); {
	case k < 4:
		p.suspects(node)
		if p.r.IntN(2) == 0 {
			p.next = append(p.next, func() { p.comesBack(node) })
		}
	case k < 7:
		p.comesBack(node)
	case k < 10:
		p.commits(p.r.IntN(len(p.setup.Clients)))
	case k < 16:
		p.late()
	case k < 19:
		p.changes()
	default:
		p.do(query(p.r.IntN(len(p.setup.Clients)), node, count))
		p.gives(func(q api.Packet, m api.Msg) bool { return m.Kind == api.KindQuery || m.Kind == api.KindTold })
	}
}

func plotSetup(r *rand.Rand) api.Setup {
	return setupOf(api.Config{F: pick(r, 1, 1, 2), Room: 12, Patience: 6}, 0, 0)
}

// G1 to G5, G9, and G7 at the end.
func TestPlots(t *testing.T) {
	t.Parallel()
	met := make(map[string]int)
	for seed := range uint64(150) {
		r := seeded(10000 + seed)
		p := plotting(t, r, plotSetup(r), met)
		for range 60 {
			p.goesOn()
		}
		p.expectGoing()
		if p.fault != "" {
			t.Fatal(seed, p.setup, p.fault)
		}
	}
	expectEnough(t, met, map[string]int{"leads": 100, "replies": 150, "returns": 300, "votes": 300, "votes of a later life": 200, "going": 20})
}

// lateOf: what was sent by that replica to that one, of that kind, by whichever life, comes once more; false: nothing of that kind was sent.
func (p *plotter) lateOf(from, to int, k api.Kind) bool {
	p.t.Helper()
	for _, q := range p.packets {
		if m, _ := message.Decode(p.setup.Config, q.Bytes); q.From == from && q.To == to && m.Kind == k {
			p.do(inject(to, from, q.Bytes))
			p.do(deliver(len(p.u.Pool())-1, 0))
			return true
		}
	}
	return false
}

// twoLateVotes: a call for a view by a life of 1 that is over comes to 2, who sends its ballot and crashes; it comes back, and helps to commit an entry; then the ballot comes.
func twoLateVotes(t *testing.T, c api.Config) *plotter {
	t.Helper()
	p := plotting(t, seeded(0), setupOf(c, 0, 0), make(map[string]int))
	p.suspects(1)
	p.comesBack(1)
	p.lateOf(1, 2, api.KindStartViewChange)
	p.comesBack(2)
	for node := range 3 {
		if s, _ := p.u.Look(node); s.Status != api.StatusNormal || s.View != 0 || len(s.Log) != 0 {
			t.Fatal(s)
		}
	}
	p.do(submit(0, write(7, "a")))
	for _, step := range []struct {
		to   int
		kind api.Kind
	}{{0, api.KindRequest}, {2, api.KindPrepare}, {0, api.KindPrepareOK}, {7, api.KindReply}} {
		p.gives(func(q api.Packet, m api.Msg) bool { return q.To == step.to && m.Kind == step.kind })
	}
	if l, _ := p.u.Client(0); l.Waits || l.Result != written {
		t.Fatal(l)
	}
	p.clears() // with what else is under way of the entry
	p.lateOf(2, 1, api.KindDoViewChange)
	p.do(submit(1, write(7, "b")))
	p.do(rounds(60))
	return p
}

// With crash vectors both votes are let go, and what was answered stays; without them the entry is lost, and the same slot is written twice.
func TestTwoLateVotes(t *testing.T) {
	p := twoLateVotes(t, three)
	if l, _ := p.u.Client(1); p.fault != "" || l.Waits || l.Result != (api.Result{Code: api.ResTaken, Slot: 7, Value: "a"}) || len(p.sequence) != 2 {
		t.Error(p.fault, l, p.sequence)
	}
	c := three
	c.Unguarded = true
	p = twoLateVotes(t, c)
	if l, _ := p.u.Client(1); p.fault == "" || l.Result != (api.Result{Code: api.ResWritten, Slot: 7, Value: "b"}) {
		t.Error("nothing is lost:", l, p.sequence)
	}
}
