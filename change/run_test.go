package change_test

import (
	"math/rand/v2"
	"slices"
	"testing"

	"amnesia/api"
	"amnesia/change"
	"amnesia/ledger"
	"amnesia/normal"
	"amnesia/oplog"
)

// Groups that change their views while requests come. Replicas in their first lives; what was sent to one comes in any order, again, or never. (Nobody answers GetState: that is a later layer's.)

// run is a group of replicas, and all that was ever sent to them.
type run struct {
	c      api.Config
	states []api.State
	pool   []api.Send
	asked  []api.Entry
	done   []api.Entry         // what was carried out, by any of them, place by place
	began  map[int][]api.Entry // by view: the log that was sent with StartView
	met    map[string]int
}

func newRun(t *testing.T, c api.Config, met map[string]int) *run {
	g := &run{c: c, began: make(map[int][]api.Entry), met: met}
	for self := range 2*c.F + 1 {
		g.states = append(g.states, first(t, c, self))
	}
	return g
}

func allCalls() map[api.Kind]call {
	l := calls()
	l[api.KindRequest], l[api.KindPrepare], l[api.KindPrepareOK], l[api.KindCommit] = normal.Request, normal.Prepare, normal.PrepareOK, normal.Commit
	return l
}

// comes: one message to one replica.
func (g *run) comes(t *testing.T, to int, m api.Msg) {
	t.Helper()
	f := allCalls()[m.Kind]
	if f == nil {
		g.met["asks for the state"]++
		return
	}
	s, l, e := f(g.c, g.states[to], m)
	if e != api.OK {
		t.Fatalf("%d: %+v at %+v", e, m, g.states[to])
	}
	g.after(t, to, s, l)
}

// ticks: what a replica does by itself, without its patience: a primary beats, one that is changing calls again.
func (g *run) ticks(t *testing.T, node int) {
	t.Helper()
	if l, e := change.Again(g.c, g.states[node]); e == api.OK {
		g.after(t, node, g.states[node], l)
	}
	if s, l, e := normal.Beat(g.c, g.states[node]); e == api.OK {
		g.after(t, node, s, l)
	}
}

func (g *run) suspects(t *testing.T, node int) {
	t.Helper()
	if s, l, e := change.Suspect(g.c, g.states[node]); e == api.OK {
		g.met["suspects"]++
		g.after(t, node, s, l)
	}
}

// after: what holds behind each step: one sequence, logs that agree, one log a view.
func (g *run) after(t *testing.T, node int, s api.State, l []api.Send) {
	t.Helper()
	g.states[node] = s
	for place := 1; place <= s.Commit; place++ {
		e := s.Log[place-1]
		if place > len(g.done) {
			g.done = append(g.done, e)
		}
		if e != g.done[place-1] || !slices.Contains(g.asked, e) {
			t.Fatalf("%d carries out %+v at %d, others %+v", node, e, place, g.done[place-1])
		}
	}
	for _, other := range g.states {
		if !oplog.Agree(s.Log, other.Log, min(s.Commit, other.Commit)) {
			t.Fatalf("%+v and %+v part", s, other)
		}
	}
	for _, send := range l {
		switch send.Msg.Kind {
		case api.KindReply:
			g.replied(t, send.Msg)
			continue
		case api.KindStartView:
			g.met["begins"]++
			if log, is := g.began[send.Msg.View]; is && !slices.Equal(log, send.Msg.Log) {
				t.Fatalf("view %d begins with %+v and with %+v", send.Msg.View, log, send.Msg.Log)
			}
			g.began[send.Msg.View] = slices.Clone(send.Msg.Log)
		}
		g.pool = append(g.pool, send)
	}
}

func (g *run) replied(t *testing.T, m api.Msg) {
	t.Helper()
	if m.Result.Code == api.ResRefused {
		return
	}
	g.met["replied"]++
	if m.Place < 1 || m.Place > len(g.done) {
		t.Fatalf("%+v, which nobody has carried out", m)
	}
	l := ledger.New()
	for _, e := range g.done[:m.Place-1] {
		l.Do(e.Op)
	}
	e := g.done[m.Place-1]
	if e.Client != m.Entry.Client || e.Number != m.Entry.Number || m.Result != l.Do(e.Op) {
		t.Fatalf("%+v, but there stands %+v", m, e)
	}
}

// takes: what was sent last, or anything; it comes to its replica, and perhaps once more later.
func (g *run) takes(t *testing.T, r *rand.Rand) {
	t.Helper()
	if len(g.pool) == 0 {
		return
	}
	at := r.IntN(len(g.pool))
	if r.IntN(3) > 0 {
		at = len(g.pool) - 1 - r.IntN(min(8, len(g.pool)))
	}
	send := g.pool[at]
	if r.IntN(4) > 0 {
		g.pool = slices.Delete(g.pool, at, at+1)
	}
	g.comes(t, send.To, send.Msg)
}

// moves: a step at random.
func (g *run) moves(t *testing.T, r *rand.Rand) {
	t.Helper()
	switch n := r.IntN(40); {
	case n < 4:
		m := api.Msg{Kind: api.KindRequest, Entry: api.Entry{Client: r.IntN(4), Number: len(g.asked) + 1, Op: someOp(r)}}
		g.asked = append(g.asked, m.Entry)
		for to := range g.states {
			g.pool = append(g.pool, api.Send{To: to, Msg: m})
		}
	case n < 5:
		g.suspects(t, r.IntN(len(g.states)))
	case n < 8:
		g.ticks(t, r.IntN(len(g.states)))
	default:
		g.takes(t, r)
	}
}

func (g *run) latest() int {
	latest := 0
	for _, s := range g.states {
		latest = max(latest, s.View)
	}
	return latest
}

func TestManyViewsNoCrash(t *testing.T) {
	r := rand.New(rand.NewPCG(11, 7))
	met := make(map[string]int)
	for range 150 {
		c := pick(r, three, three, five, seven, unguarded(three))
		c.Room = pick(r, 2, 6, 12)
		g := newRun(t, c, met)
		for range 600 {
			g.moves(t, r)
		}
		if len(g.began) > 1 {
			met["two views or more"]++
		}
	}
	for _, what := range []string{"asks for the state", "replied", "suspects", "begins", "two views or more"} {
		if met[what] < 50 {
			t.Error("too few:", what, met)
		}
	}
}

// Whatever has been lost: if one goes to a view above all others', and all that is sent from then on comes, all are normal in it with one log, all of it carried out behind a beat.
func TestAllComeTogether(t *testing.T) {
	r := rand.New(rand.NewPCG(11, 8))
	met := make(map[string]int)
	for range 80 {
		c := pick(r, three, five, seven)
		c.Room = pick(r, 2, 6, 12)
		g := newRun(t, c, met)
		for range 300 {
			g.moves(t, r)
		}
		g.pool = nil
		latest := g.latest()
		for node, s := range g.states {
			if g.latest() == latest && s.View == latest {
				g.suspects(t, node) // a normal primary does not: then another one of that view, or of the next turn
			}
		}
		if g.latest() == latest {
			continue // nobody but the primary is in its view: it has not told anybody yet
		}
		met["a new view"]++
		for len(g.pool) > 0 {
			send := g.pool[0]
			g.pool = g.pool[1:]
			g.comes(t, send.To, send.Msg)
		}
		primary := g.states[(latest+1)%(2*c.F+1)]
		g.ticks(t, primary.Self)
		for len(g.pool) > 0 {
			send := g.pool[0]
			g.pool = g.pool[1:]
			g.comes(t, send.To, send.Msg)
		}
		for _, s := range g.states {
			if s.Status != api.StatusNormal || s.View != latest+1 || !slices.Equal(s.Log, primary.Log) || s.Commit != len(s.Log) {
				t.Fatalf("%+v", g.states)
			}
		}
	}
	if met["a new view"] < 50 {
		t.Error("too few:", met)
	}
}
