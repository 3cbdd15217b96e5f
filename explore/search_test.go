package explore_test

import (
	"slices"
	"testing"

	"amnesia/api"
)

// P24.3: what is counted, what is let go, what is found.

func TestNothingToDo(t *testing.T) {
	// No clients, no clock, no crash: the empty script alone, to any depth.
	for depth := range 13 {
		expectFinding(t, api.Scope{Setup: setupOf(three), Ops: []api.Op{count}, Depth: depth, Drops: 12, Copies: 12}, api.Finding{Scripts: 1, States: 1})
	}
}

// asleep: some replicas of a group of seven, the primary among them, are crashed for good; the others' clocks may tick for long. So many packets, all unlike, are on their way to one that is crashed.
func asleep(awake, packets int) api.Scope {
	p := api.Scope{Setup: setupOf(seven)}
	for node := range 7 - awake {
		p.Before = append(p.Before, crash(node), stillborn(node, last))
	}
	for i := range packets {
		p.Before = append(p.Before, inject(0, 0, []byte{byte(i)}))
	}
	return p
}

// choose: in how many ways k can be taken out of n.
func choose(n, k int) int {
	ways := 1
	for i := range k {
		ways = ways * (n - i) / (i + 1)
	}
	return ways
}

// asleepStates: how many states a scope of sleepers has: by which packets are gone, how many of these were dropped, and how often each has ticked. (Where nobody is awake there are no ticks.)
func asleepStates(awake, packets, depth, ticks, drops int) int {
	n := 0
	for gone := range min(packets, depth) + 1 {
		n += choose(packets, gone) * (min(gone, drops) + 1) * choose(min(ticks, depth-gone)+awake, awake)
	}
	return n
}

func TestCountedStates(t *testing.T) {
	for _, x := range []struct{ awake, packets, depth, ticks, drops int }{
		{0, 0, 5, 3, 3}, {1, 0, 12, 12, 0}, {1, 0, 12, 5, 0}, {3, 0, 4, 4, 0}, {6, 0, 3, 12, 0}, {0, 4, 3, 0, 0}, {0, 4, 12, 2, 0},
		{0, 4, 12, 0, 12}, {0, 5, 3, 0, 1}, {2, 3, 4, 2, 1}, {2, 2, 12, 3, 2}, {3, 3, 5, 2, 3},
	} {
		p := asleep(x.awake, x.packets)
		p.Depth, p.Ticks, p.Drops = x.depth, x.ticks, x.drops
		want := asleepStates(x.awake, x.packets, x.depth, x.ticks, x.drops)
		f := searched(t, p, 4)
		if f.States != want || f.Found || f.Scripts < want {
			t.Fatal(x, f, want)
		}
	}
}

// MaxStates states are not too many, one more is.
func TestTooManyStates(t *testing.T) {
	t.Parallel()
	if testing.Short() {
		t.Skip("it takes some seconds")
	}
	p := asleep(4, 7)
	p.Depth, p.Ticks, p.Drops = 9, 3, 7
	if n := asleepStates(4, 7, 9, 3, 7); n != api.MaxStates {
		t.Fatal(n)
	}
	if f := searched(t, p, 16); f.States != api.MaxStates || f.Found || f.Deepest != 9 {
		t.Fatal(f)
	}
	p = asleep(5, 9)
	p.Depth, p.Ticks, p.Drops = 8, 2, 1
	if n := asleepStates(5, 9, 8, 2, 1); n != api.MaxStates+1 {
		t.Fatal(n)
	}
	for _, workers := range []int{5, 16} {
		expectNoFinding(t, p, workers, api.ErrStates)
	}
}

// A fault that comes ahead of too many states is found; without it there are too many.
func TestAFaultAheadOfTooManyStates(t *testing.T) {
	t.Parallel()
	p := asleep(6, 0)
	p.Setup.Config.Patience = 6
	p.Depth, p.Ticks, p.Drops, p.Copies = 12, 12, 12, 12
	expectNoFinding(t, p, 8, api.ErrStates)
	p.Before = append(p.Before, inject(1, 2, forged(t, p.Setup.Config, entry(0, 1, opA))))
	found := append(slices.Clip(p.Before), deliver(0))
	expectFinding(t, p, api.Finding{Scripts: 2, States: 1, Found: true, Script: found, Row: faultOf(t, p.Setup, found)})
}

// A fault in Before itself: the empty script has it.
func TestAFaultInBefore(t *testing.T) {
	for _, more := range [][]api.Event{nil, {tick(0)}, {crash(1), inject(0, 1, []byte("x"))}} {
		p := api.Scope{Setup: setupOf(three, 0), Ops: []api.Op{count}, Depth: 12, Ticks: 12, Crashes: 12, Drops: 12, Copies: 12}
		p.Before = scriptOf([]api.Event{tick(1), inject(1, 2, forged(t, three, entry(0, 1, opA))), deliver(0)}, more)
		row := faultOf(t, p.Setup, p.Before)
		if row != 1 { // behind what is Taken
			t.Fatal(row)
		}
		expectFinding(t, p, api.Finding{Scripts: 1, Found: true, Script: p.Before, Row: row})
		// Moves of such a script are asked all the same.
		expectModelMoves(t, p, nil)
		expectModelMoves(t, p, []api.Event{tick(2)})
	}
}

// The first fault in the order of length, and of moves: of two lies that are under way the first; a submit that has none goes ahead of both.
func TestTheFirstFault(t *testing.T) {
	s := setupOf(three, 0)
	lie := func(node int) api.Event { return inject(1, node, forged(t, three, entry(0, 9, opA))) }
	noise := inject(0, 1, []byte("x"))
	for _, x := range []struct {
		before          []api.Event
		ops             []api.Op
		script          []api.Event
		scripts, states int
	}{
		{[]api.Event{lie(2), lie(0)}, nil, []api.Event{deliver(0)}, 2, 1},
		{[]api.Event{noise, lie(2), lie(0)}, nil, []api.Event{deliver(1)}, 3, 2},
		{[]api.Event{noise, noise, lie(2), noise}, nil, []api.Event{deliver(2)}, 3, 2},
		{[]api.Event{noise, lie(2), lie(0)}, []api.Op{count}, []api.Event{deliver(1)}, 4, 3},
		{[]api.Event{noise, lie(0), noise, lie(2)}, []api.Op{count}, []api.Event{deliver(1)}, 4, 3},
	} {
		p := api.Scope{Setup: s, Before: x.before, Ops: x.ops, Depth: 12, Ticks: 12, Crashes: 1, Drops: 12, Copies: 12}
		found := scriptOf(x.before, x.script)
		want := api.Finding{Scripts: x.scripts, States: x.states, Found: true, Script: found, Row: faultOf(t, s, found)}
		if x.states > 1 {
			want.Deepest = 1
		}
		expectFinding(t, p, want)
		p.Depth = 1
		expectFinding(t, p, want)
		p.Depth = 0
		expectFinding(t, p, api.Finding{Scripts: 1, States: 1})
	}
	// A lie to a replica that is crashed, or recovers, is none.
	p := api.Scope{Setup: s, Before: []api.Event{crash(2), lie(2)}, Depth: 3}
	if f := searched(t, p, 2); f.Found || f.Deepest != 3 {
		t.Fatal(f)
	}
}

// Scripts that come to the same, but have used up unlike numbers, are both gone on from.
func TestTheSameWithOtherCounts(t *testing.T) {
	// A packet to a replica that is crashed: it comes there or is lost, that is the same; and behind a copy of it, and one of the two, it lies there as at the beginning.
	p := asleep(0, 1)
	for _, x := range []struct{ drops, copies, depth, all int }{
		{0, 0, 12, 2}, // none; Deliver
		{1, 0, 12, 3}, // Drop
		{12, 0, 12, 3},
		{1, 1, 1, 4}, // Copy
		{0, 1, 3, 5}, // none; Deliver; Copy; Copy, Deliver; and Deliver once more
	} {
		p.Drops, p.Copies, p.Depth = x.drops, x.copies, x.depth
		if f := searched(t, p, 2); f.Scripts != x.all || f.States != x.all {
			t.Fatal(x, f)
		}
	}
	// Ticks of a replica that recovers: what it sends is lost, and it is as it was.
	p = api.Scope{Setup: setupOf(three), Before: []api.Event{crash(0), stillborn(0, last), crash(1), stillborn(1, last), crash(2), restart(2, lo(1))}, Depth: 3, Ticks: 1}
	want := modelSearch(p, 1000)
	expectFinding(t, p, want.Finding)
	same := false
	for i, m := range want.goneOn {
		for _, o := range want.goneOn[:i] {
			same = same || m.isAlike(o) && !m.asMuch(o)
		}
	}
	if !same {
		t.Fatal("none of them come to the same")
	}
}

// The same with other draws: of two replicas that are crashed one has started once, and crashed; or the other one has. What they sent is lost (or came to the other one). The rest change the view, so that they answer nothing.
func TestTheSameWithOtherDraws(t *testing.T) {
	t.Parallel()
	d := driving(t, setupOf(five)).suspects(1)
	d.gives(1, 0, api.KindStartViewChange).gives(1, 2, api.KindStartViewChange).clears().do(crash(3), crash(4))
	p := api.Scope{Setup: d.setup, Before: d.script, Depth: 6, Drops: 4, Crashes: 1}
	lost := func(node, came int) *modelEnd { // all of what it sent, but what comes to the other one
		d := driving(t, p.Setup, p.Before...).do(restart(node, lo(1)), crash(node))
		if came > 0 {
			d.gives(node, 7-node, api.KindRecovery)
		}
		m, _ := modelRun(p.Setup, p.Before, d.clears().script[len(p.Before):])
		return m
	}
	for came := range 2 {
		a, b := lost(3, came), lost(4, came)
		if !a.isAlike(b) || a.known.used != b.known.used || a.asMuch(b) || len(a.script) != 6 {
			t.Fatal(a, b)
		}
		expectAlike(t, p.Setup, scriptOf(p.Before, a.script), scriptOf(p.Before, b.script), true)
		p.Depth = 12
		expectMoves(t, p, a.script, []api.Event{restart(3, lo(2)), restart(4, lo(1))})
		expectMoves(t, p, b.script, []api.Event{restart(3, lo(1)), restart(4, lo(2))})
		p.Depth = 6
	}
	// As the model counts too, in some ten seconds: were draws not asked, there would be two states less, since these two pairs are the only ones.
	if f := searched(t, p, 8); !sameFinding(f, api.Finding{Scripts: 19381, States: 5861, Deepest: 6}) {
		t.Fatal(f)
	}
}

// What comes to the same at unlike lengths: the shorter one is gone on from.
func TestTheSameAtOtherLengths(t *testing.T) {
	// Two Commits of an entry that 2 lacks: each makes it ask for the log, or the second one comes when it has it.
	s := setupOf(three, 0)
	d := driving(t, s, submit(0, opA)).commits(0, 1)
	commit := d.u.Pool()[d.place(0, 2, api.KindCommit)].Bytes
	d.clears().do(inject(0, 2, commit), inject(0, 2, commit))
	p := api.Scope{Setup: s, Before: d.script, Depth: 6}
	want := modelSearch(p, 1000)
	expectFinding(t, p, want.Finding)
	expectFinding(t, p, api.Finding{Scripts: 13, States: 10, Deepest: 5}) // the one of six events is let go
	lengths := make(map[int]int)
	for _, pair := range want.letGo {
		lengths[len(pair[0].script)-len(pair[1].script)]++
	}
	if lengths[2] != 1 { // six packets came, or four
		t.Fatal(lengths)
	}
}

// Deepest is the length of the longest that was gone on from; scripts that are let go are not.
func TestDeepest(t *testing.T) {
	s := setupOf(three)
	// A packet that does nothing: behind it there is nothing more to do.
	p := api.Scope{Setup: s, Before: []api.Event{inject(0, 1, []byte("x"))}}
	for depth, want := range []api.Finding{{Scripts: 1, States: 1}, {Scripts: 2, States: 2, Deepest: 1}, {Scripts: 2, States: 2, Deepest: 1}, {Scripts: 2, States: 2, Deepest: 1}} {
		p.Depth = depth
		expectFinding(t, p, want)
	}
	// A Commit that tells a backup what it knows, and whose clock stands at the beginning: the pool alone is another one.
	p.Before = []api.Event{tick(0), drop(1)}
	p.Depth = 9
	expectFinding(t, p, api.Finding{Scripts: 2, States: 2, Deepest: 1})
}

// To the greatest depth.
func TestTheGreatestDepth(t *testing.T) {
	p := asleep(1, 0)
	p.Depth, p.Ticks = 12, 12
	expectFinding(t, p, api.Finding{Scripts: 13, States: 13, Deepest: 12})
	p.Ticks = 11
	expectFinding(t, p, api.Finding{Scripts: 12, States: 12, Deepest: 11})
}
