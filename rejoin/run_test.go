package rejoin_test

import (
	"math/rand/v2"
	"slices"
	"testing"

	"amnesia/api"
	"amnesia/change"
	"amnesia/ledger"
	"amnesia/normal"
	"amnesia/oplog"
	"amnesia/rejoin"
)

// Groups whose replicas crash, with everything that they had, and come back, while requests come and views change. What was sent to one comes in any order, again, or never; draws rise.

// run is a group of replicas, and all that was ever sent to them.
type run struct {
	c       api.Config
	states  []api.State
	crashed []bool
	draw    uint64              // the last that was drawn, by any of them
	sure    []int               // by replica: how much of the sequence was carried out when its life began
	back    map[api.Stamp]bool  // the later lives that have returned
	pool    []api.Send          // what is under way
	asked   []api.Entry         // what clients have requested
	done    []api.Entry         // what was carried out, by any of them, place by place
	began   map[int][]api.Entry // by view: the log that was sent with StartView
	met     map[string]int
}

func newRun(t *testing.T, c api.Config, met map[string]int) *run {
	n := 2*c.F + 1
	g := &run{c: c, crashed: make([]bool, n), sure: make([]int, n), back: make(map[api.Stamp]bool), began: make(map[int][]api.Entry), met: met}
	for self := range n {
		g.states = append(g.states, first(t, c, self))
	}
	return g
}

// allCalls: those of the layers below too.
func allCalls() map[api.Kind]call {
	l := calls()
	l[api.KindRequest], l[api.KindPrepare], l[api.KindPrepareOK], l[api.KindCommit] = normal.Request, normal.Prepare, normal.PrepareOK, normal.Commit
	l[api.KindStartViewChange], l[api.KindDoViewChange], l[api.KindStartView] = change.Start, change.Vote, change.Install
	return l
}

// comes: one message to one replica.
func (g *run) comes(t *testing.T, to int, m api.Msg) {
	t.Helper()
	if g.crashed[to] {
		return
	}
	before := g.states[to]
	s, l, e := allCalls()[m.Kind](g.c, before, m)
	if e != api.OK {
		t.Fatalf("%d: %+v at %+v", e, m, before)
	}
	if m.Kind == api.KindNewState && (s.Status != before.Status || s.View > before.View || len(s.Log) != len(before.Log)) {
		g.met["catches up"]++
	}
	g.after(t, to, s, l)
}

func (g *run) isUp(node int) bool {
	return !g.crashed[node] && g.states[node].Status != api.StatusRecovering
}

// ticks: what a replica does by itself, without its patience.
func (g *run) ticks(t *testing.T, node int) {
	t.Helper()
	if g.crashed[node] {
		return
	}
	if s, l, e := rejoin.Ask(g.c, g.states[node]); e == api.OK {
		g.after(t, node, s, l)
	}
	if l, e := change.Again(g.c, g.states[node]); e == api.OK {
		g.after(t, node, g.states[node], l)
	}
	if s, l, e := normal.Beat(g.c, g.states[node]); e == api.OK {
		g.after(t, node, s, l)
	}
}

func (g *run) suspects(t *testing.T, node int) {
	t.Helper()
	if g.crashed[node] {
		return
	}
	if s, l, e := change.Suspect(g.c, g.states[node]); e == api.OK {
		g.after(t, node, s, l)
	}
}

func (g *run) crashes(node int) {
	if !g.crashed[node] {
		g.crashed[node], g.states[node] = true, api.State{}
		g.met["crashes"]++
	}
}

func (g *run) startsAgain(t *testing.T, node int) {
	t.Helper()
	if !g.crashed[node] {
		return
	}
	g.draw++
	s, l, e := rejoin.Start(g.c, node, lo(g.draw))
	if e != api.OK {
		t.Fatal(e)
	}
	g.crashed[node], g.sure[node] = false, len(g.done)
	g.after(t, node, s, l)
}

// after: what holds behind each step: one sequence, logs that agree, one log a view; and of a return, nothing is forgotten.
func (g *run) after(t *testing.T, node int, s api.State, l []api.Send) {
	t.Helper()
	before := g.states[node]
	g.states[node] = s
	for place := 1; place <= s.Commit; place++ {
		e := s.Log[place-1]
		if place > len(g.done) {
			g.done = append(g.done, e)
		}
		if e != g.done[place-1] || !slices.Contains(g.asked, e) {
			t.Fatalf("%d carries out %+v at %d, others %+v", node, e, place, g.done[place-1])
		}
	}
	for other := range g.states {
		if g.isUp(node) && g.isUp(other) && !oplog.Agree(s.Log, g.states[other].Log, min(s.Commit, g.states[other].Commit)) {
			t.Fatalf("%+v and %+v part", s, g.states[other])
		}
	}
	if before.Status == api.StatusRecovering && s.Status != api.StatusRecovering {
		g.met["returns"]++
		g.back[api.Stamp{Node: node, Draw: s.Vector[node]}] = true
		if len(s.Log) < g.sure[node] || !slices.Equal(s.Log[:g.sure[node]], g.done[:g.sure[node]]) {
			t.Fatalf("%+v returns without %+v", s, g.done[:g.sure[node]])
		}
	}
	for _, send := range l {
		g.sent(t, s, send)
	}
	g.known(t)
}

// known: of the replicas that are up at most F - 1 do not have the draw of one that has returned, or a later one of it.
func (g *run) known(t *testing.T) {
	t.Helper()
	for stamp := range g.back {
		without := 0
		for node, s := range g.states {
			if g.isUp(node) && below(s.Vector[stamp.Node], stamp.Draw) {
				without++
			}
		}
		if without > g.c.F-1 {
			t.Fatalf("%d do not know %+v: %+v", without, stamp, g.states)
		}
	}
}

// sent: what goes out, by one whose state is s.
func (g *run) sent(t *testing.T, s api.State, send api.Send) {
	t.Helper()
	if s.Status == api.StatusRecovering && send.Msg.Kind != api.KindRecovery {
		t.Fatalf("%+v by %+v", send, s)
	}
	switch send.Msg.Kind {
	case api.KindReply:
		g.replied(t, send.Msg)
		return
	case api.KindStartView:
		g.met["begins"]++
		if log, is := g.began[send.Msg.View]; is && !slices.Equal(log, send.Msg.Log) {
			t.Fatalf("view %d begins with %+v and with %+v", send.Msg.View, log, send.Msg.Log)
		}
		g.began[send.Msg.View] = slices.Clone(send.Msg.Log)
	}
	g.pool = append(g.pool, send)
}

func (g *run) replied(t *testing.T, m api.Msg) {
	t.Helper()
	if m.Result.Code == api.ResRefused {
		return
	}
	g.met["replied"]++
	if m.Place < 1 || m.Place > len(g.done) {
		t.Fatalf("%+v, which nobody has carried out", m)
	}
	l := ledger.New()
	for _, e := range g.done[:m.Place-1] {
		l.Do(e.Op)
	}
	e := g.done[m.Place-1]
	if e.Client != m.Entry.Client || e.Number != m.Entry.Number || m.Result != l.Do(e.Op) {
		t.Fatalf("%+v, but there stands %+v", m, e)
	}
}

// takes: what was sent last, or anything; it comes to its replica, and perhaps once more later.
func (g *run) takes(t *testing.T, r *rand.Rand) {
	t.Helper()
	if len(g.pool) == 0 {
		return
	}
	at := r.IntN(len(g.pool))
	if r.IntN(3) > 0 {
		at = len(g.pool) - 1 - r.IntN(min(8, len(g.pool)))
	}
	send := g.pool[at]
	if r.IntN(4) > 0 {
		g.pool = slices.Delete(g.pool, at, at+1)
	}
	g.comes(t, send.To, send.Msg)
}

func (g *run) requests(op api.Op, client int) {
	m := api.Msg{Kind: api.KindRequest, Entry: api.Entry{Client: client, Number: len(g.asked) + 1, Op: op}}
	g.asked = append(g.asked, m.Entry)
	for to := range g.states {
		g.pool = append(g.pool, api.Send{To: to, Msg: m})
	}
}

// down: how many are crashed or recovering.
func (g *run) down() int {
	down := 0
	for node := range g.states {
		if !g.isUp(node) {
			down++
		}
	}
	return down
}

// moves: a step at random; mostly at most so many as F are down, now and then more.
func (g *run) moves(t *testing.T, r *rand.Rand) {
	t.Helper()
	node := r.IntN(len(g.states))
	switch n := r.IntN(80); {
	case n < 6:
		g.requests(someOp(r), r.IntN(4))
	case n < 8:
		g.suspects(t, node)
	case n < 14:
		g.ticks(t, node)
	case n < 17:
		g.startsAgain(t, node)
	case n < 18:
		if g.down() < g.c.F || r.IntN(60) == 0 {
			g.loses(r)
			g.crashes(node)
		}
	default:
		g.takes(t, r)
	}
}

// loses: the last that was sent, as if the crash had come ahead of it.
func (g *run) loses(r *rand.Rand) {
	g.pool = g.pool[:len(g.pool)-r.IntN(min(3, len(g.pool))+1)]
}

// allComes: what is under way, and what is sent on that, till there is nothing.
func (g *run) allComes(t *testing.T) {
	t.Helper()
	for len(g.pool) > 0 {
		send := g.pool[0]
		g.pool = g.pool[1:]
		g.comes(t, send.To, send.Msg)
	}
}

func TestManyCrashes(t *testing.T) {
	r := rand.New(rand.NewPCG(12, 7))
	met := make(map[string]int)
	for range 300 {
		c := pick(r, three, three, five, seven)
		c.Room = pick(r, 2, 6, 12)
		g := newRun(t, c, met)
		for range 800 {
			g.moves(t, r)
		}
		if len(g.began) > 1 {
			met["two views or more"]++
		}
	}
	for what, least := range map[string]int{"catches up": 100, "replied": 500, "crashes": 500, "returns": 200, "begins": 500, "two views or more": 100} {
		if met[what] < least {
			t.Error("too few:", what, met)
		}
	}
}

// A backup crashes, the group goes on without it, and it comes back with all that was done, not carried out yet among it.
func TestABackupReturns(t *testing.T) {
	g := newRun(t, three, make(map[string]int))
	g.requests(write(7, "a"), 1)
	g.allComes(t)
	g.crashes(2)
	g.requests(write(7, "b"), 2)
	g.allComes(t)
	if g.met["replied"] != 2 || len(g.done) != 2 {
		t.Fatal(g.met, g.done)
	}
	g.requests(count, 3)
	for _, send := range g.pool[:1] { // the primary has it, and sends Prepare, which nobody hears
		g.comes(t, send.To, send.Msg)
	}
	g.pool = nil
	g.startsAgain(t, 2)
	if s := g.states[2]; s.Status != api.StatusRecovering || s.Vector[2] != lo(1) || len(g.pool) != 2 {
		t.Fatal(s, g.pool)
	}
	asked := g.pool
	g.pool = nil
	g.comes(t, 1, asked[1].Msg)
	g.comes(t, 0, asked[0].Msg)
	answers := g.pool
	g.pool = nil
	g.comes(t, 2, answers[0].Msg)
	if s := g.states[2]; s.Status != api.StatusRecovering || len(s.Answers) != 1 {
		t.Fatal(s)
	}
	g.comes(t, 2, answers[1].Msg)
	want := api.State{Self: 2, Status: api.StatusNormal, Log: g.asked, Commit: 2, Vector: los(0, 0, 1)}
	if s := g.states[2]; !same(s, want) || !sameSends(g.pool, []api.Send{from(want, 0, api.Msg{Kind: api.KindPrepareOK, Place: 3})}) {
		t.Fatal(s, g.pool)
	}
	g.allComes(t) // its acknowledgement is enough for the third
	if g.met["replied"] != 3 || g.states[2].Commit != 3 || g.states[0].Commit != 3 {
		t.Fatal(g.states)
	}
	for _, m := range append(answers, asked...) { // what comes late does nothing
		if m.To == 2 {
			expectNothing(t, "late", three, g.states[2], m.Msg)
		}
	}
}

// A primary crashes; the others go to the next view; it comes back as a backup of that one. While they are still in its own view nobody can give it a log.
func TestAFormerPrimaryReturns(t *testing.T) {
	g := newRun(t, three, make(map[string]int))
	g.requests(write(7, "a"), 1)
	g.allComes(t)
	g.crashes(0)
	g.startsAgain(t, 0)
	g.allComes(t)
	if s := g.states[0]; s.Status != api.StatusRecovering || len(s.Answers) != 2 {
		t.Fatal(s)
	}
	g.suspects(t, 1)
	g.allComes(t)
	if g.states[1].View != 1 || g.states[2].View != 1 || g.states[0].Status != api.StatusRecovering || len(g.states[1].Log) != 1 {
		t.Fatal(g.states)
	}
	g.requests(write(7, "b"), 2)
	g.allComes(t)
	if len(g.done) != 2 {
		t.Fatal(g.done)
	}
	g.ticks(t, 0)
	g.allComes(t)
	want := api.State{Self: 0, Status: api.StatusNormal, View: 1, Last: 1, Log: g.asked, Commit: 2, Vector: los(1, 0, 0)}
	if !same(g.states[0], want) {
		t.Fatal(g.states[0])
	}
	for _, s := range g.states {
		if s.Vector[0] != lo(1) {
			t.Error(s)
		}
	}
	// A second life is over too, and a third one knows more than its answers to that.
	g.crashes(0)
	g.startsAgain(t, 0)
	g.allComes(t)
	want.Vector = los(2, 0, 0)
	if !same(g.states[0], want) {
		t.Fatal(g.states[0])
	}
}

// One that has missed everything asks, and catches up as a whole.
func TestOneThatIsBehindCatchesUp(t *testing.T) {
	g := newRun(t, three, make(map[string]int))
	for i := range 3 {
		g.requests(count, i)
		g.pool = slices.DeleteFunc(g.pool, func(send api.Send) bool { return send.To == 2 })
		for len(g.pool) > 0 {
			send := g.pool[0]
			g.pool = g.pool[1:]
			if send.To != 2 {
				g.comes(t, send.To, send.Msg)
			}
		}
	}
	g.ticks(t, 0)
	g.allComes(t)
	if s := g.states[2]; len(s.Log) != 3 || s.Commit != 3 || g.met["catches up"] != 1 {
		t.Fatal(s, g.met)
	}
}

// Two start again at once, and message by message it is told who hears of whom: 0 answers 3 first, 1 and 2 answer 4 first.
func TestTwoReturnAtOnce(t *testing.T) {
	g := newRun(t, five, make(map[string]int))
	g.requests(write(7, "a"), 1)
	g.allComes(t)
	g.crashes(3)
	g.crashes(4)
	g.startsAgain(t, 3)
	g.startsAgain(t, 4)
	asked := g.pool // of 3 to 0, 1, 2, 4; of 4 to 0, 1, 2, 3
	g.pool = nil
	for _, at := range []int{0, 4, 5, 1, 6, 2, 3, 7} {
		g.comes(t, asked[at].To, asked[at].Msg)
	}
	answers := g.pool // of 0 to 3, to 4; of 1 to 4, to 3; of 2 to 4, to 3; who recovers has answered nobody
	g.pool = nil
	if len(answers) != 6 {
		t.Fatal(answers)
	}
	for _, at := range []int{0, 3} {
		g.comes(t, 3, answers[at].Msg)
	}
	if s := g.states[3]; s.Status != api.StatusRecovering || s.Vector[4] != lo(2) { // 1 has told it of 4
		t.Fatal(s)
	}
	g.comes(t, 3, answers[5].Msg)
	if s := g.states[3]; s.Status != api.StatusNormal || len(s.Log) != 1 || s.Commit != 1 {
		t.Fatal(s)
	}
	for _, at := range []int{2, 4, 1} { // till 0's comes it knows nothing of 3, nor has it a log
		if s := g.states[4]; s.Status != api.StatusRecovering {
			t.Fatal(s)
		}
		g.comes(t, 4, answers[at].Msg)
	}
	want := api.State{Self: 4, Status: api.StatusNormal, Log: g.asked, Commit: 1, Vector: los(0, 0, 0, 1, 2)}
	if !same(g.states[4], want) || g.states[3].Vector[4] != lo(2) {
		t.Error(g.states[3], g.states[4])
	}
}

// P12.10: two replicas start again while all others stay up, in one view. What is sent comes in any order, again, or never.
func TestTwoThatReturnKnowOfEachOther(t *testing.T) {
	r := rand.New(rand.NewPCG(12, 8))
	met := make(map[string]int)
	for range 1500 {
		c := pick(r, three, five, five, seven)
		n := 2*c.F + 1
		g := newRun(t, c, met)
		view := r.IntN(2 * n)
		for node := range g.states {
			g.states[node].View, g.states[node].Last = view, view
		}
		two := r.Perm(n)[:2]
		if slices.Contains(two, view%n) {
			continue // without that view's primary nobody returns in it
		}
		returned := 0
		for step := 0; returned < 2 && step < 400; step++ {
			switch n := r.IntN(8); {
			case step == 0 || n < 1:
				g.beginsAgainOnce(t, two[0])
			case n < 2 && step > 3:
				g.beginsAgainOnce(t, two[1])
			case n < 3:
				g.ticks(t, pick(r, two...))
			default:
				g.takes(t, r)
			}
			if len(g.back) == returned {
				continue
			}
			returned = len(g.back)
			a, b := g.states[two[0]], g.states[two[1]]
			if returned == 1 {
				met["the first, "+statusOf(b)]++
				continue
			}
			met["both"]++
			if a.Vector[b.Self] != b.Vector[b.Self] && b.Vector[a.Self] != a.Vector[a.Self] {
				t.Fatalf("%+v and %+v do not know of each other", a, b)
			}
		}
	}
	for _, what := range []string{"both", "the first, up", "the first, recovering"} {
		if met[what] < 50 {
			t.Error("too few:", what, met)
		}
	}
}

func statusOf(s api.State) string {
	if s.Status == api.StatusRecovering {
		return "recovering"
	}
	return "up"
}

// beginsAgainOnce: unless it has done so already.
func (g *run) beginsAgainOnce(t *testing.T, node int) {
	t.Helper()
	if g.states[node].Vector[node] == (api.Draw{}) {
		g.crashes(node)
		g.startsAgain(t, node)
	}
}

// Under Unguarded nobody learns a draw, whoever returns.
func TestUnguardedNobodyLearns(t *testing.T) {
	g := newRun(t, unguarded(five), make(map[string]int))
	g.crashes(3)
	g.crashes(4)
	g.startsAgain(t, 3)
	g.startsAgain(t, 4)
	for len(g.pool) > 0 {
		send := g.pool[0]
		g.pool = g.pool[1:]
		s, l, e := allCalls()[send.Msg.Kind](g.c, g.states[send.To], send.Msg)
		if e != api.OK {
			t.Fatal(e)
		}
		g.states[send.To] = s
		g.pool = append(g.pool, l...)
	}
	for node, s := range g.states {
		want := make(api.Vector, 5)
		if node > 2 {
			want[node] = lo(uint64(node - 2))
		}
		if s.Status != api.StatusNormal || !slices.Equal(s.Vector, want) {
			t.Error(s)
		}
	}
}
