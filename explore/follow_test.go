package explore_test

import (
	"errors"
	"math/rand/v2"
	"slices"
	"testing"

	"amnesia/api"
	"amnesia/history"
	"amnesia/nemesis"
)

// What follows: P24.5 to P24.7, and G12 as far as it speaks of exploring.

// expectFound: a script that is found begins with Before, goes on by moves, and has its fault there.
func expectFound(t *testing.T, p api.Scope, f api.Finding) {
	t.Helper()
	n := len(p.Before)
	if !f.Found || len(f.Script) < n || !sameEvents(f.Script[:n], p.Before) || len(f.Script) > n+p.Depth {
		t.Fatalf("%+v", f)
	}
	for i, e := range f.Script[n:] {
		if l := moves(t, p, f.Script[n:n+i]); !slices.ContainsFunc(l, func(m api.Event) bool { return sameEvent(m, e) }) {
			t.Fatalf("%+v is no move behind %+v", e, f.Script[:n+i])
		}
		if row := faultOf(t, p.Setup, f.Script[:n+i]); row >= 0 {
			t.Fatal("the fault is there already:", row)
		}
	}
	if row := faultOf(t, p.Setup, f.Script); row != f.Row || row < 0 {
		t.Fatal(row, f)
	}
}

// leastFault: the length of the shortest script of moves that has a fault, all of them being played, what comes to the same too; -1: none of at most so many has.
func leastFault(t *testing.T, p api.Scope, length int) int {
	t.Helper()
	scripts := [][]api.Event{nil}
	for n := range length + 1 {
		var longer [][]api.Event
		for _, script := range scripts {
			m, plays := modelRun(p.Setup, p.Before, script)
			if !plays {
				t.Fatal(script)
			}
			if m.fault >= 0 {
				return n
			}
			for _, e := range m.moves(p) {
				longer = append(longer, scriptOf(script, []api.Event{e}))
			}
		}
		scripts = longer
	}
	return -1
}

// P24.5, and that nothing is missed.
func TestTheShortest(t *testing.T) {
	t.Parallel()
	met := make(map[int]int)
	for k := range uint64(120) {
		r := seeded(12000 + k)
		p := someScope(r)
		p.Setup.Config.F, p.Ticks, p.Copies, p.Drops = 1, r.IntN(2), 0, 0
		p.Before = someEvents(r, p.Setup, 5)
		switch lie := inject(1, r.IntN(3), someLie(r, p.Setup.Config)); r.IntN(4) {
		case 0:
			p.Before = append(p.Before, lie)
		case 1:
			p.Before = append(p.Before, lie, round(1))
		default:
			p.Before = append(p.Before, halves(t, p.Setup.Config, pick(r, 0, 2))...)
		}
		p.Depth = 2
		if len(moves(t, p, nil)) < 6 {
			p.Depth = 3
		}
		f := searched(t, p, 4)
		least := leastFault(t, p, p.Depth)
		if f.Found {
			expectFound(t, p, f)
		}
		if got := len(f.Script) - len(p.Before); f.Found != (least >= 0) || f.Found && got != least {
			t.Fatalf("%+v: %+v, want a fault at length %d", p, f, least)
		}
		met[least]++
	}
	expectEnough(t, met, map[int]int{-1: 20, 0: 5, 1: 5, 2: 15})
}

// sameMove: are two moves the same, but for the place of their packet?
func sameMove(a, b api.Event, in, other []api.Packet) bool {
	switch a.Kind {
	case api.EventDeliver, api.EventDrop, api.EventCopy:
		return a.Kind == b.Kind && samePacket(in[a.Index], other[b.Index])
	}
	return sameEvent(a, b)
}

// P24.6: what comes to the same goes on to the same.
func TestWhatComesToTheSame(t *testing.T) {
	t.Parallel()
	met := make(map[string]int)
	for k := range uint64(100) {
		r := seeded(15000 + k)
		p := someScope(r)
		p.Depth = pick(r, 3, 3, 4)
		for i, pair := range modelSearch(p, 60).letGo {
			if i == 12 {
				break
			}
			a, b := pair[0], pair[1]
			p.Depth = 12
			mine, others := moves(t, p, a.script), moves(t, p, b.script)
			if len(mine) != len(others) {
				t.Fatalf("%+v\n%+v", mine, others)
			}
			for _, x := range mine {
				at := slices.IndexFunc(others, func(y api.Event) bool { return sameMove(x, y, a.pool, b.pool) })
				if at < 0 {
					t.Fatalf("%+v is no move of the other one: %+v", x, others)
				}
				one, other := scriptOf(p.Before, a.script, []api.Event{x}), scriptOf(p.Before, b.script, []api.Event{others[at]})
				if !alike(t, p.Setup, one, other) {
					t.Fatalf("%+v\n%+v\nare no more alike", one, other)
				}
				met[kindName(x.Kind)]++
			}
		}
	}
	expectEnough(t, met, map[string]int{"submit": 50, "deliver": 2000, "drop": 200, "copy": 200, "tick": 400, "crash": 50, "restart": 50})
}

// P24.6 goes on to any depth: two alike scripts with the same moves behind them, a fault in the one being one in the other.
func TestTheSameForLong(t *testing.T) {
	t.Parallel()
	met := make(map[bool]int)
	for k := range uint64(40) {
		r := seeded(18000 + k)
		p := someScope(r)
		p.Before = append(p.Before, halves(t, p.Setup.Config, pick(r, 0, 2))...)
		p.Depth = 3
		for i, pair := range modelSearch(p, 40).letGo {
			if i == 10 {
				break
			}
			p.Depth = 12
			met[goesOnTheSame(t, r, p, pair[0], pair[1])]++
		}
	}
	expectEnough(t, met, map[bool]int{true: 50, false: 5})
}

// goesOnTheSame: two alike ends stay so, whatever moves come behind them; whether they have no fault in the end.
func goesOnTheSame(t *testing.T, r *rand.Rand, p api.Scope, x, y *modelEnd) bool {
	t.Helper()
	for {
		if !x.isAlike(y) {
			t.Fatalf("%+v\n%+v\nhave parted", x.script, y.script)
		}
		mine, others := x.moves(p), y.moves(p)
		if len(mine) == 0 || len(others) == 0 { // the longer one comes to the depth first
			return x.fault < 0
		}
		m := pick(r, mine...)
		at := slices.IndexFunc(others, func(o api.Event) bool { return sameMove(m, o, x.pool, y.pool) })
		if at < 0 {
			t.Fatal(m, others)
		}
		x, _ = modelRun(p.Setup, p.Before, scriptOf(x.script, []api.Event{m}))
		y, _ = modelRun(p.Setup, p.Before, scriptOf(y.script, []api.Event{others[at]}))
	}
}

// honest: runs that keep the premises, as the nemesis makes them; nothing forged is under way behind them.
func honest(t *testing.T, plan string, seed uint64) api.Scope {
	t.Helper()
	s, script, _, e := nemesis.Compile(plan, seed)
	if e != api.OK {
		t.Fatal(e)
	}
	return api.Scope{Setup: s, Before: script}
}

func premises(t *testing.T, s api.Setup, script []api.Event) api.Premise {
	t.Helper()
	_, rows := played(t, s, script)
	p, e := history.Premises(s.Config, rows)
	if e != api.OK {
		t.Fatal(e)
	}
	return p
}

var kept = api.Premise{Few: -1, Fresh: -1, Genuine: -1}

// P24.7: moves keep the premises, and within them nothing is found.
func TestWithinThePremises(t *testing.T) {
	t.Parallel()
	met := make(map[string]int)
	for _, plan := range []string{
		"group 1 4 6\nclient 0\nclient 0\nload 2\nfault 20 20 0 40\nchurn 40 8\nload 1\nrun 1\n",
		"group 1 2 6\nclient 0\nload 1\nclock 0 0\nfault 10 10 0 50\nchurn 50 14\n",
		"group 2 4 6\nclient 3\nload 2\nfault 20 10 0 40\nsplit 0 1\nchurn 40 9\nheal\n",
		"group 1 4 6\nclient 0\nload 1\nrun 2\ncrash 0\ncrash 1\nrun 1\nrestart 0\nrestart 1\nrun 2\n", // more than F at one time
	} {
		for seed := range uint64(5) {
			p := honest(t, plan, seed)
			r := seeded(seed)
			p.Ops = []api.Op{someOp(r), someOp(r)}
			p.Ticks, p.Drops, p.Copies, p.Crashes, p.Depth = r.IntN(3), r.IntN(2), r.IntN(2), r.IntN(3), 12
			before := premises(t, p.Setup, p.Before)
			for range 3 {
				walk := someWalk(t, r, p, 12)
				behind := premises(t, p.Setup, scriptOf(p.Before, walk))
				if behind != before || before.Fresh != -1 || before.Genuine != -1 {
					t.Fatalf("%+v behind %+v: %+v", behind, before, walk)
				}
				if before == kept {
					met["kept"]++
				} else {
					met["few is broken"]++
				}
			}
			p.Depth = 2
			if len(moves(t, p, nil)) > 25 {
				p.Depth = 1
			}
			f := searched(t, p, 8)
			if f.Found {
				t.Fatalf("%+v", f)
			}
			met["scripts"] += f.Scripts
		}
	}
	expectEnough(t, met, map[string]int{"kept": 40, "few is broken": 15, "scripts": 1000})
}

// All runs from the beginning, up to some depth.
func TestFromTheBeginning(t *testing.T) {
	t.Parallel()
	for _, p := range []api.Scope{
		{Depth: 12, Ops: []api.Op{opA}},
		{Depth: 10, Crashes: 2},
		{Depth: 6, Ops: []api.Op{opA}, Crashes: 1, Ticks: 1},
		{Depth: 5, Ops: []api.Op{opA, opB}, Ticks: 2, Crashes: 2, Drops: 1, Copies: 1},
	} {
		p.Setup = setupOf(three, 0, 0)
		if f := searched(t, p, 8); f.Found || f.Deepest != p.Depth {
			t.Fatal(p, f)
		}
	}
}

// What is forged and left under way is not within them, though Before keeps them so far.
func TestWhatIsLeftUnderWay(t *testing.T) {
	p := api.Scope{Setup: setupOf(three, 0), Before: []api.Event{inject(1, 2, forged(t, three, entry(0, 1, opA)))}, Depth: 1}
	if premises(t, p.Setup, p.Before) != kept {
		t.Fatal("broken already")
	}
	f := searched(t, p, 2)
	expectFound(t, p, f)
	if got := premises(t, p.Setup, f.Script); got.Genuine != 0 {
		t.Fatal(got)
	}
	// Likewise a draw that Before has used already is not used again by a move.
	p.Before = []api.Event{crash(1), restart(1, lo(9)), crash(1)}
	p.Depth = 12
	expectMoves(t, p, nil, moving(deliver, 0, 1), []api.Event{restart(1, lo(10))})
}

// votes: the run in which a vote of a life that is over is late, up to so many events ahead of the one that loses an answered entry: replica 1 calls for view 1, crashes and comes back; its call comes to 2, who sends its ballot, crashes and comes back; then 0 and 2 commit an entry, and the ballot comes to 1. Nothing is forged. (With crash vectors 2 lets the call go, and there is no ballot.)
func votes(t *testing.T, c api.Config, ahead int) api.Scope {
	t.Helper()
	p := api.Scope{Setup: setupOf(c, 0), Depth: min(12, ahead+1), Crashes: 1}
	d := driving(t, p.Setup).suspects(1).do(crash(1), restart(1, lo(1)))
	d.gives(1, 0, api.KindRecovery).gives(1, 2, api.KindRecovery).gives(0, 1, api.KindRecoveryResponse).gives(2, 1, api.KindRecoveryResponse)
	d.gives(1, 2, api.KindStartViewChange).do(crash(2), restart(2, lo(1)))
	d.gives(2, 0, api.KindRecovery).gives(2, 1, api.KindRecovery).gives(0, 2, api.KindRecoveryResponse).gives(1, 2, api.KindRecoveryResponse)
	for node := range 3 {
		if s, _ := d.u.Look(node); s.Status != api.StatusNormal || s.View != 0 {
			t.Fatal(s)
		}
	}
	d.do(submit(0, opA)).commits(0, 2).gives(0, 7, api.KindReply)
	if look, _ := d.u.Client(0); look.Waits {
		t.Fatal(look)
	}
	if ahead > 5 {
		p.Ops = []api.Op{opA}
	}
	p.Before = d.script[:len(d.script)-ahead+1]
	return p
}

// G12: without crash vectors the run that loses an answered entry is found; with them there is none.
func TestTwoLateVotes(t *testing.T) {
	t.Parallel()
	for ahead := 1; ahead <= 7; ahead++ {
		p := votes(t, unsure, ahead)
		f := searched(t, p, 8)
		expectFound(t, p, f)
		if n := len(f.Script) - len(p.Before); n > ahead {
			t.Fatal(ahead, n)
		}
		if got := premises(t, p.Setup, f.Script); got != kept {
			t.Fatal(got)
		}
		p = votes(t, three, ahead)
		if f := searched(t, p, 8); f.Found || f.States < ahead {
			t.Fatal(ahead, f)
		}
	}
}

// The client had its answer, and a view has begun that does not know of it.
func TestAnAnsweredEntryIsLost(t *testing.T) {
	p := votes(t, unsure, 1)
	f := searched(t, p, 3)
	expectFound(t, p, f)
	u, rows := played(t, p.Setup, f.Script)
	look, _ := u.Client(0)
	one, _ := u.Look(1)
	if look.Waits || look.Result != (api.Result{Code: api.ResWritten, Slot: 7, Value: "a"}) || one.Status != api.StatusNormal || one.View != 1 || len(one.Log) != 0 {
		t.Fatal(look, one)
	}
	if j := judged(t, p.Setup, rows); !slices.Equal(j.Sequence, []api.Entry{entry(0, 1, opA)}) || rows[j.Fault].Kind != api.SeenLead {
		t.Fatal(j)
	}
	if wrong := history.Verify(p.Setup, rows); !errors.Is(wrong, history.ErrLead) {
		t.Fatal(wrong)
	}
}
