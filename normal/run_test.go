package normal_test

import (
	"math"
	"math/rand/v2"
	"slices"
	"testing"

	"amnesia/api"
	"amnesia/ledger"
	"amnesia/normal"
	"amnesia/oplog"
)

// P10.11: one view, no crash. Replicas in their first lives; what was sent to one comes in any order, again, or never.

// run is a group of replicas, and all that was ever sent to them.
type run struct {
	c       api.Config
	states  []api.State
	pool    []api.Send
	asked   []api.Entry
	queries map[api.Entry]api.Op // by client and number: what was asked for
	done    []api.Entry          // what was carried out, by any of them, place by place
	met     map[string]int
}

func newRun(t *testing.T, c api.Config, met map[string]int) *run {
	g := &run{c: c, queries: make(map[api.Entry]api.Op), met: met}
	for self := range 2*c.F + 1 {
		g.states = append(g.states, first(t, c, self))
	}
	return g
}

// comes: one message to one replica.
func (g *run) comes(t *testing.T, to int, m api.Msg) {
	t.Helper()
	if calls()[m.Kind] == nil { // a GetState: none of this chapter's
		g.met["asks for the state"]++
		return
	}
	s, l := do(t, g.c, g.states[to], m)
	g.after(t, to, s, l)
}

func (g *run) beats(t *testing.T) {
	t.Helper()
	s, l, e := normal.Beat(g.c, g.states[0])
	if e != api.OK {
		t.Fatal(e)
	}
	g.after(t, 0, s, l)
}

// after: all that the promise says, behind each step.
func (g *run) after(t *testing.T, node int, s api.State, l []api.Send) {
	t.Helper()
	g.states[node] = s
	for place := 1; place <= s.Commit; place++ {
		e := s.Log[place-1]
		if place > len(g.done) {
			g.done = append(g.done, e)
		}
		if e != g.done[place-1] || !slices.Contains(g.asked, e) {
			t.Fatalf("%d carries out %+v at %d, others %+v", node, e, place, g.done[place-1])
		}
	}
	for _, other := range g.states {
		if !oplog.Begins(other.Log, g.states[0].Log) {
			t.Fatalf("%+v is no beginning of the primary's", other)
		}
	}
	for _, send := range l {
		switch send.Msg.Kind {
		case api.KindReply:
			g.replied(t, send.Msg)
		case api.KindTold:
			g.told(t, send.Msg)
		default:
			g.pool = append(g.pool, send)
		}
	}
	if s.Commit == g.c.Room {
		g.met["all is carried out"]++
	}
}

// ledgerAt: what the ledger is behind a place of the sequence.
func (g *run) ledgerAt(place int) *ledger.Ledger {
	l := ledger.New()
	for _, e := range g.done[:place] {
		l.Do(e.Op)
	}
	return l
}

func (g *run) replied(t *testing.T, m api.Msg) {
	t.Helper()
	if m.Result == (api.Result{Code: api.ResRefused}) {
		g.met["refused"]++
		if m.Place != 0 || len(g.states[0].Log) != g.c.Room {
			t.Fatalf("%+v", m)
		}
		return
	}
	g.met["replied"]++
	if m.Place < 1 || m.Place > len(g.done) {
		t.Fatalf("%+v, which nobody has carried out", m)
	}
	e := g.done[m.Place-1]
	if e.Client != m.Entry.Client || e.Number != m.Entry.Number || m.Result != g.ledgerAt(m.Place-1).Do(e.Op) {
		t.Fatalf("%+v, but there stands %+v", m, e)
	}
}

func (g *run) told(t *testing.T, m api.Msg) {
	t.Helper()
	g.met["told"]++
	if m.Commit > len(g.done) || m.Result != g.ledgerAt(m.Commit).Do(g.queries[m.Entry]) {
		t.Fatalf("%+v", m)
	}
}

// moves: a step at random.
func (g *run) moves(t *testing.T, r *rand.Rand) {
	t.Helper()
	switch n := r.IntN(12); {
	case n < 2:
		m := request(r.IntN(4), pick(r, 1+r.IntN(8), 1+r.IntN(8), math.MaxInt), someOp(r))
		g.asked = append(g.asked, m.Entry)
		for to := range g.states {
			g.pool = append(g.pool, api.Send{To: to, Msg: m})
		}
	case n < 3:
		name := api.Entry{Client: r.IntN(4), Number: len(g.queries) + 1}
		g.queries[name] = pick(r, read(r.IntN(3)), read(1023), count)
		m := query(name.Client, name.Number, r.IntN(len(g.done)+1), g.queries[name])
		for to := range g.states {
			g.pool = append(g.pool, api.Send{To: to, Msg: m})
		}
	case n < 4:
		g.beats(t)
	case len(g.pool) > 0:
		at := r.IntN(len(g.pool))
		if r.IntN(2) == 0 { // what was sent last
			at = len(g.pool) - 1 - r.IntN(min(8, len(g.pool)))
		}
		send := g.pool[at]
		if r.IntN(3) > 0 { // it does not come again
			g.pool = slices.Delete(g.pool, at, at+1)
		}
		g.comes(t, send.To, send.Msg)
	}
}

func TestOneViewNoCrash(t *testing.T) {
	r := rand.New(rand.NewPCG(10, 7))
	met := make(map[string]int)
	for range 150 {
		c := pick(r, three, five, seven, unguarded(three))
		c.Room = pick(r, 1, 2, 6, 12)
		g := newRun(t, c, met)
		for range 300 {
			g.moves(t, r)
		}
	}
	for _, what := range []string{"asks for the state", "replied", "refused", "told", "all is carried out"} {
		if met[what] < 100 {
			t.Error("too few:", what, met)
		}
	}
}

// Whatever has been lost, beats that come and are answered make all logs the primary's, carried out.
func TestOneViewComesTogether(t *testing.T) {
	r := rand.New(rand.NewPCG(10, 8))
	met := make(map[string]int)
	for range 60 {
		c := pick(r, three, five, seven)
		c.Room = pick(r, 1, 2, 6, 12)
		g := newRun(t, c, met)
		for range 100 {
			g.moves(t, r)
		}
		for range 3 {
			g.pool = nil
			g.beats(t)
			for len(g.pool) > 0 {
				send := g.pool[0]
				g.pool = g.pool[1:]
				g.comes(t, send.To, send.Msg)
			}
		}
		behind := 0
		for _, s := range g.states {
			if len(s.Log) < len(g.states[0].Log) {
				behind++ // it lacks entries that are committed, which beats do not tell again: state transfer's work
			}
		}
		if p := g.states[0]; p.Commit != len(p.Log) || behind > c.F {
			t.Fatalf("%+v", g.states)
		}
	}
}
