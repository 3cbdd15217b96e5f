package replica_test

import (
	"math/rand/v2"
	"slices"
	"testing"

	"amnesia/api"
	"amnesia/ledger"
	"amnesia/message"
	"amnesia/oplog"
	"amnesia/replica"
)

// Groups of replicas between which frames go: they crash, with everything that they had, and come back; packets come in any order, again, spoilt or never; draws rise.

// group has a nil replica where one is crashed.
type group struct {
	c        api.Config
	replicas []*replica.Replica
	pool     []api.Packet
	draw     uint64
	sure     []int               // by replica: how much of the sequence was carried out when its life began
	asked    []api.Entry         // what clients have requested
	done     []api.Entry         // what was carried out, by any of them, place by place
	answered []api.Msg           // what clients were replied and told
	began    map[int][]api.Entry // by view: the log that was sent with StartView
	met      map[string]int
}

func newGroup(t *testing.T, c api.Config, met map[string]int) *group {
	t.Helper()
	g := &group{c: c, sure: make([]int, 2*c.F+1), began: make(map[int][]api.Entry), met: met}
	for self := range 2*c.F + 1 {
		g.replicas = append(g.replicas, first(t, c, self))
	}
	return g
}

// comes: a packet to its address.
func (g *group) comes(t *testing.T, p api.Packet) {
	t.Helper()
	if p.To >= api.MaxNodes {
		g.tellsClient(t, p)
		return
	}
	r := g.replicas[p.To]
	if r == nil {
		return
	}
	before := r.State()
	l, e := r.Handle(p.Bytes)
	_, want := message.Decode(g.c, p.Bytes)
	if e != want || e != api.OK && len(l) > 0 {
		t.Fatalf("%d, want %d: %+v", e, want, l)
	}
	if e != api.OK {
		g.met["spoilt"]++
		expectLooks(t, "spoilt", r, before)
	}
	g.after(t, p.To, before, l)
}

func (g *group) ticks(t *testing.T, node int) {
	t.Helper()
	if r := g.replicas[node]; r != nil {
		before := r.State()
		g.after(t, node, before, tick(t, r))
	}
}

func (g *group) crashes(node int) {
	if g.replicas[node] != nil {
		g.replicas[node] = nil
		g.met["crashes"]++
	}
}

func (g *group) startsAgain(t *testing.T, node int) {
	t.Helper()
	if g.replicas[node] != nil {
		return
	}
	g.draw++
	r, l := again(t, g.c, node, lo(g.draw))
	g.replicas[node], g.sure[node] = r, len(g.done)
	g.after(t, node, r.State(), l)
}

func (g *group) isUp(node int) bool {
	r := g.replicas[node]
	return r != nil && r.State().Status != api.StatusRecovering
}

// after: what holds behind each step: one sequence, logs that agree, one log a view; and of a return, nothing is forgotten.
func (g *group) after(t *testing.T, node int, before api.State, l []api.Packet) {
	t.Helper()
	s := g.replicas[node].State()
	expectLooks(t, "run", g.replicas[node], s)
	for place := 1; place <= s.Commit; place++ {
		e := s.Log[place-1]
		if place > len(g.done) {
			g.done = append(g.done, e)
		}
		if e != g.done[place-1] || !slices.Contains(g.asked, e) {
			t.Fatalf("%d carries out %+v at %d, others %+v", node, e, place, g.done[place-1])
		}
	}
	for other, r := range g.replicas {
		if g.isUp(node) && g.isUp(other) {
			if o := r.State(); !oplog.Agree(s.Log, o.Log, min(s.Commit, o.Commit)) {
				t.Fatalf("%+v and %+v part", s, o)
			}
		}
	}
	if before.Status == api.StatusRecovering && s.Status != api.StatusRecovering {
		g.met["returns"]++
		if len(s.Log) < g.sure[node] || !slices.Equal(s.Log[:g.sure[node]], g.done[:g.sure[node]]) {
			t.Fatalf("%+v returns without %+v", s, g.done[:g.sure[node]])
		}
	}
	for _, p := range l {
		g.sent(t, s, p)
	}
	g.pool = append(g.pool, l...)
}

func (g *group) sent(t *testing.T, s api.State, p api.Packet) {
	t.Helper()
	m, e := message.Decode(g.c, p.Bytes)
	if e != api.OK || m.Node != s.Self || p.From != s.Self || s.Status == api.StatusRecovering && m.Kind != api.KindRecovery {
		t.Fatalf("%d: %+v by %+v", e, m, s)
	}
	if m.Kind == api.KindStartView {
		g.met["begins"]++
		if log, is := g.began[m.View]; is && !slices.Equal(log, m.Log) {
			t.Fatalf("view %d begins with %+v and with %+v", m.View, log, m.Log)
		}
		g.began[m.View] = m.Log
	}
}

// tellsClient: what the ledger answers behind the sequence up to that place.
func (g *group) tellsClient(t *testing.T, p api.Packet) {
	t.Helper()
	m, e := message.Decode(g.c, p.Bytes)
	if e != api.OK || m.Result.Code == api.ResRefused {
		return
	}
	g.answered = append(g.answered, m)
	g.met["answered"]++
	if m.Kind != api.KindReply {
		return
	}
	if m.Place > len(g.done) {
		t.Fatalf("%+v, which nobody has carried out", m)
	}
	l := ledger.New()
	for _, e := range g.done[:m.Place-1] {
		l.Do(e.Op)
	}
	entry := g.done[m.Place-1]
	if p.To != 7+entry.Client || entry.Client != m.Entry.Client || entry.Number != m.Entry.Number || m.Result != l.Do(entry.Op) {
		t.Fatalf("%+v, but there stands %+v", m, entry)
	}
}

func (g *group) requests(t *testing.T, client int, op api.Op) {
	t.Helper()
	entry := api.Entry{Client: client, Number: len(g.asked) + 1, Op: op}
	g.asked = append(g.asked, entry)
	for to := range g.replicas {
		g.pool = append(g.pool, api.Packet{From: 7 + client, To: to, Bytes: frame(t, g.c, api.Msg{Kind: api.KindRequest, Entry: entry})})
	}
}

// rounds: all that is under way comes, then each replica that is alive ticks.
func (g *group) rounds(t *testing.T, n int) {
	t.Helper()
	for range n {
		pool := g.pool
		g.pool = nil
		for _, p := range pool {
			g.comes(t, p)
		}
		for node := range g.replicas {
			g.ticks(t, node)
		}
	}
}

func (g *group) expectState(t *testing.T, node int, want api.State) {
	t.Helper()
	if got := g.replicas[node].State(); !same(got, want) {
		t.Fatalf("%d: %+v, want %+v", node, got, want)
	}
}

// A crash and a return, played by rounds: a write; the primary crashes; the others go to the next view; a second write; it comes back with both, and is told of a third.
func TestACrashAndAReturn(t *testing.T) {
	g := newGroup(t, three, make(map[string]int))
	g.requests(t, 0, write(7, "a"))
	g.rounds(t, 4)
	written := api.Msg{Kind: api.KindReply, Place: 1, Entry: api.Entry{Client: 0, Number: 1}, Result: api.Result{Code: api.ResWritten, Slot: 7, Value: "a"}}
	if len(g.answered) != 1 || !message.Alike(g.answered[0], written) {
		t.Fatal(g.answered)
	}
	earlier := g.replicas[0]
	last := earlier.State()
	g.crashes(0)
	g.rounds(t, 9) // patience is six ticks
	for node := 1; node < 3; node++ {
		if s := g.replicas[node].State(); s.Status != api.StatusNormal || s.View != 1 || !slices.Equal(s.Log, g.asked) || s.Commit != 1 {
			t.Fatal(s)
		}
	}
	g.requests(t, 1, write(7, "b"))
	g.rounds(t, 4)
	if len(g.answered) != 2 || g.answered[1].Result != (api.Result{Code: api.ResTaken, Slot: 7, Value: "a"}) || g.answered[1].View != 1 {
		t.Fatal(g.answered)
	}
	g.startsAgain(t, 0)
	g.expectState(t, 0, api.State{Self: 0, Status: api.StatusRecovering, Vector: los(1, 0, 0)})
	if cells, rows := g.replicas[0].Cells(), g.replicas[0].Rows(); len(cells)+len(rows) > 0 {
		t.Fatal(cells, rows)
	}
	g.rounds(t, 2)
	g.expectState(t, 0, api.State{Self: 0, Status: api.StatusNormal, View: 1, Last: 1, Log: g.asked, Commit: 2, Vector: los(1, 0, 0), Idle: 1})
	g.requests(t, 0, count)
	g.rounds(t, 5)
	for _, r := range g.replicas {
		s := r.State()
		if s.View != 1 || s.Commit != 3 || !slices.Equal(s.Vector, los(1, 0, 0)) || !slices.Equal(r.Cells(), []api.Cell{{Slot: 7, Value: "a"}}) || len(r.Rows()) != 2 {
			t.Fatal(s, r.Cells(), r.Rows())
		}
	}
	// The object of the life that is over knows nothing of it; what it says is let go.
	if s := earlier.State(); !same(s, last) {
		t.Fatal(s)
	}
	before := own(g.replicas[1].State())
	for _, p := range tick(t, earlier) {
		g.comes(t, p)
	}
	g.expectState(t, 1, before)
}

// With F + 1 crashed nobody commits, and nobody returns: what is answered stays.
func TestTooManyCrash(t *testing.T) {
	g := newGroup(t, three, make(map[string]int))
	g.requests(t, 0, write(7, "a"))
	g.rounds(t, 5)
	g.crashes(1)
	g.crashes(2)
	g.startsAgain(t, 1)
	g.startsAgain(t, 2)
	g.requests(t, 1, write(7, "b"))
	g.rounds(t, 100)
	if len(g.answered) != 1 || g.met["returns"] != 0 || g.replicas[0].State().Commit != 1 {
		t.Fatal(g.answered, g.met)
	}
	for node := 1; node < 3; node++ {
		if s := g.replicas[node].State(); s.Status != api.StatusRecovering {
			t.Fatal(s)
		}
	}
}

// takes: what was sent last, or anything: it comes, perhaps once more later, now and then spoilt.
func (g *group) takes(t *testing.T, r *rand.Rand) {
	t.Helper()
	if len(g.pool) == 0 {
		return
	}
	at := r.IntN(len(g.pool))
	if r.IntN(3) > 0 {
		at = len(g.pool) - 1 - r.IntN(min(8, len(g.pool)))
	}
	p := g.pool[at]
	if r.IntN(4) > 0 {
		g.pool = slices.Delete(g.pool, at, at+1)
	}
	if r.IntN(20) == 0 {
		p.Bytes = slices.Clone(p.Bytes)
		p.Bytes[r.IntN(len(p.Bytes))] ^= byte(1 + r.IntN(255))
	}
	g.comes(t, p)
}

// moves: a step at random; mostly at most so many as F are down, now and then more.
func (g *group) moves(t *testing.T, r *rand.Rand) {
	t.Helper()
	node, down := r.IntN(len(g.replicas)), 0
	for other := range g.replicas {
		if !g.isUp(other) {
			down++
		}
	}
	switch n := r.IntN(80); {
	case n < 5:
		g.requests(t, r.IntN(4), someOp(r))
	case n < 22:
		g.ticks(t, node)
	case n < 25:
		g.startsAgain(t, node)
	case n < 26:
		if down < g.c.F || r.IntN(60) == 0 {
			g.pool = g.pool[:len(g.pool)-r.IntN(min(3, len(g.pool))+1)] // as if the crash had come ahead of the last sends
			g.crashes(node)
		}
	default:
		g.takes(t, r)
	}
}

func TestManyCrashes(t *testing.T) {
	r := rand.New(rand.NewPCG(13, 15))
	met := make(map[string]int)
	for range 60 {
		c := pick(r, three, three, five, seven)
		c.Room, c.Patience = pick(r, 2, 6, 12), 6
		g := newGroup(t, c, met)
		for range 800 {
			g.moves(t, r)
		}
	}
	for what, least := range map[string]int{"answered": 100, "crashes": 100, "returns": 40, "begins": 100, "spoilt": 100} {
		if met[what] < least {
			t.Error("too few:", what, met)
		}
	}
}
