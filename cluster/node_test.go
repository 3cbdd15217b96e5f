package cluster_test

import (
	"math"
	"slices"
	"testing"

	"amnesia/api"
)

// Tick, Crash and Restart, and what a cut does.

func noNodes(n int) []int { return append([]int{n, n + 1, 7, 8}, farNumbers...) }

func TestTick(t *testing.T) {
	w := paired(t, setupOf(three, 0))
	w.expect(tick(0, 0), sent(commit(t, three, 1, 0)), sent(commit(t, three, 2, 0)))
	for range 5 {
		w.expect(tick(1, 0))
	}
	called := by(three, 1, api.Msg{Kind: api.KindStartViewChange, View: 1})
	w.expect(tick(1, 0), sent(packet(t, three, 1, 0, called)), sent(packet(t, three, 1, 2, called)))
	if s := w.state(1); s.Status != api.StatusChange || s.View != 1 {
		t.Error(s)
	}
	w.do(crash(1))
	for _, cut := range []int{0, 1, 7} {
		w.expect(tick(1, cut))
	}
}

func TestCrash(t *testing.T) {
	for node := range 3 {
		w := paired(t, setupOf(three, 0), submit(0, write(7, "a")), rounds(3))
		pool := w.u.Pool()
		w.expect(crash(node), down(node))
		if s, on := w.u.Look(node); on || !sameState(s, api.State{}) {
			t.Error(s, on)
		}
		w.expect(crash(node)) // it is gone already
		if !samePool(w.u.Pool(), pool) {
			t.Error("what is under way stays under way")
		}
	}
}

func TestNodesThatThereAreNot(t *testing.T) {
	for _, c := range configs() {
		n := 2*c.F + 1
		w := paired(t, setupOf(c, 0))
		for _, node := range noNodes(n) {
			if node >= 0 && node < n {
				continue
			}
			w.refuse(tick(node, 0), crash(node), restart(node, lo(1), 0))
		}
		w.do(tick(0, 0), tick(n-1, 0), crash(0), crash(n-1), restart(0, lo(1), 0), restart(n-1, lo(1), 0))
		for _, cut := range []int{-1, math.MinInt} {
			w.refuse(tick(0, cut), restart(1, lo(1), cut))
		}
	}
}

func recovery(t *testing.T, node, to int, d api.Draw) api.Packet {
	t.Helper()
	v := make(api.Vector, 3)
	v[node] = d
	return packet(t, three, node, to, api.Msg{Kind: api.KindRecovery, Node: node, Draw: d, Vector: v})
}

func TestRestart(t *testing.T) {
	for _, d := range []api.Draw{lo(1), lo(math.MaxUint64), {Hi: 1}, {Hi: math.MaxUint64, Lo: math.MaxUint64}} {
		w := paired(t, setupOf(three, 0), submit(0, write(7, "a")), rounds(5), crash(1))
		w.expect(restart(1, d, 0), up(1, d), sent(recovery(t, 1, 0, d)), sent(recovery(t, 1, 2, d)))
		want := api.State{Self: 1, Status: api.StatusRecovering, Vector: api.Vector{{}, d, {}}}
		if s := w.state(1); !sameState(s, want) {
			t.Error(s)
		}
		w.expect(restart(1, lo(9), 0)) // it is alive
		w.expect(tick(1, 0), sent(recovery(t, 1, 0, d)), sent(recovery(t, 1, 2, d)))
	}
	w := paired(t, setupOf(three, 0), crash(1))
	for node := range 3 {
		w.refuse(restart(node, api.Draw{}, 0)) // be it alive or not
	}
	w.do(restart(1, lo(4), 0), crash(1), restart(1, lo(4), 0), crash(1), restart(1, lo(2), 0)) // whether draws are fresh is not the driver's to say
}

// expectCuts: an event whose step sends these: what is seen with each cut, and whether the replica is there behind it. ahead is what is seen ahead of the sends.
func expectCuts(t *testing.T, begin func() *pair, node int, e api.Event, ahead []api.Seen, sends ...api.Seen) {
	t.Helper()
	for _, cut := range []int{0, 1, 2, 3, len(sends), len(sends) + 1, len(sends) + 2, math.MaxInt - 1, math.MaxInt} {
		w := begin()
		e.Cut = cut
		want := slices.Concat(ahead, sends)
		pool := len(w.u.Pool())
		if e.Kind == api.EventDeliver {
			pool--
		}
		out := len(sends)
		if cut > 0 {
			out = min(cut-1, len(sends))
			want = append(slices.Concat(ahead, sends[:out]), down(node))
		}
		w.expect(e, want...)
		if _, on := w.u.Look(node); on != (cut == 0) || len(w.u.Pool()) != pool+out {
			t.Fatalf("%+v: %v, %v", e, on, w.u.Pool())
		}
	}
}

func TestCutOfDeliver(t *testing.T) {
	begin := func() *pair { return paired(t, setupOf(three, 0), submit(0, write(7, "a"))) }
	expectCuts(t, begin, 0, deliver(0, 0), []api.Seen{taken(request(t, three, 0, asked))}, sent(prepare(t, three, 1, 1, asked)), sent(prepare(t, three, 2, 1, asked)))
	expectCuts(t, begin, 1, deliver(1, 0), []api.Seen{taken(request(t, three, 1, asked))}) // a step that sends nothing
	broken := func() *pair { return paired(t, setupOf(three, 0), inject(1, 7, []byte("no frame"))) }
	expectCuts(t, broken, 1, deliver(0, 0), []api.Seen{taken(api.Packet{From: 7, To: 1, Bytes: []byte("no frame")})})
	acknowledged := func() *pair {
		w := begin()
		w.give(0, api.KindRequest)
		w.give(1, api.KindPrepare)
		w.clear()
		w.do(inject(0, 1, prepareOK(t, three, 1, 1).Bytes))
		return w
	}
	expectCuts(t, acknowledged, 0, deliver(0, 0), []api.Seen{taken(prepareOK(t, three, 1, 1)), done(0, 0, 1, asked)},
		sent(reply(t, three, 0, 1, asked, written)), sent(commit(t, three, 1, 1)), sent(commit(t, three, 2, 1)))
}

func TestCutOfTick(t *testing.T) {
	begin := func() *pair { return paired(t, setupOf(three, 0)) }
	expectCuts(t, begin, 0, tick(0, 0), nil, sent(commit(t, three, 1, 0)), sent(commit(t, three, 2, 0)))
	expectCuts(t, begin, 2, tick(2, 0), nil)
}

func TestCutOfRestart(t *testing.T) {
	begin := func() *pair { return paired(t, setupOf(three, 0), crash(0), crash(1)) }
	expectCuts(t, begin, 1, restart(1, lo(3), 0), []api.Seen{up(1, lo(3))}, sent(recovery(t, 1, 0, lo(3))), sent(recovery(t, 1, 2, lo(3))))
	// Behind one that was cut it may start again.
	w := begin()
	w.do(restart(1, lo(3), 1), restart(1, lo(4), 2), restart(1, lo(5), 0))
	if s := w.state(1); !slices.Equal(s.Vector, los(0, 5, 0)) {
		t.Error(s)
	}
}

// A packet to a client, and a restart of one that is alive: the cut does nothing.
func TestCutThatDoesNothing(t *testing.T) {
	for _, cut := range []int{1, 2, 9, math.MaxInt} {
		w := tellable(t)
		w.do(query(0, 2, count))
		w.give(2, api.KindQuery)
		w.expect(deliver(w.find(7, api.KindReply), cut), taken(reply(t, three, 0, 1, asked, written)), api.Seen{Kind: api.SeenReply, Entry: entry(0, 1, api.Op{}), Result: written})
		at := w.find(7, api.KindTold)
		w.expect(deliver(at, cut), taken(w.u.Pool()[at]))
		for node := range 3 {
			w.expect(restart(node, lo(7), cut))
			w.state(node) // it is alive
		}
	}
}

// P15.4: whatever a replica has had, behind a crash and a restart with the same draw it is the same, and goes on the same.
func TestACrashTakesAll(t *testing.T) {
	histories := [][]api.Event{
		{},
		{rounds(3)},
		{submit(0, write(7, "a")), rounds(5)},
		{submit(0, write(7, "a")), deliver(0, 0), deliver(0, 0), submit(1, count), submit(0, read(7)), rounds(2)},
		{crash(0), submit(1, write(9, "z")), rounds(20)},
		{crash(1), restart(1, lo(3), 0)},
		{crash(1), restart(1, lo(4), 0), rounds(3), submit(0, count), rounds(5), crash(1), restart(1, lo(5), 0), rounds(1)},
		{tick(1, 0), tick(1, 0), tick(1, 0), tick(1, 0), tick(1, 0), tick(1, 0)},
	}
	later := []api.Msg{
		by(three, 0, api.Msg{Kind: api.KindCommit}), {Kind: api.KindRequest, Entry: entry(0, 1, write(7, "b"))},
		{Kind: api.KindRecoveryResponse, Node: 2, View: 3, Draw: lo(8), Vector: los(0, 8, 0)},
		{Kind: api.KindRecoveryResponse, Node: 0, View: 3, Draw: lo(8), Commit: 1, Log: []api.Entry{asked, entry(0, 2, count)}, Vector: los(0, 8, 0)},
		{Kind: api.KindQuery, Entry: entry(0, 1, read(7))},
		{Kind: api.KindPrepare, Node: 0, View: 3, Place: 3, Commit: 2, Entry: entry(1, 1, read(7)), Vector: los(0, 8, 0)},
	}
	var want []api.Seen
	var state api.State
	for i, history := range histories {
		w := paired(t, setupOf(three, 0, 0), history...)
		w.do(crash(1))
		w.clear()
		seen := w.do(restart(1, lo(8), 0))
		w.clear()
		for _, m := range later {
			w.do(inject(1, 0, frame(t, three, m)))
			seen = append(seen, w.do(deliver(0, 0), tick(1, 0))...)
			w.clear()
		}
		for k := range seen {
			seen[k].Event = 0
		}
		if i == 0 {
			want, state = seen, w.state(1)
		}
		if !sameRows(seen, want) || !sameState(w.state(1), state) {
			t.Errorf("history %d: %+v, %v", i, w.state(1), told(three, seen))
		}
	}
	if state.Status != api.StatusNormal || state.View != 3 || state.Commit != 2 || len(state.Log) != 3 {
		t.Error("too little happens:", state)
	}
}
