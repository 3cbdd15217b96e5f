package explore_test

import (
	"math"
	"slices"
	"testing"

	"amnesia/api"
	"amnesia/explore"
)

// Scopes that may be, and that may not.

// numbersOf: where a scope's numbers lie.
func numbersOf(p *api.Scope) map[string]*int {
	return map[string]*int{"Depth": &p.Depth, "Ticks": &p.Ticks, "Drops": &p.Drops, "Copies": &p.Copies, "Crashes": &p.Crashes}
}

func TestNumbersOfAScope(t *testing.T) {
	for name := range numbersOf(&api.Scope{}) {
		for _, n := range []int{-1, 0, 1, 11, 12, 13, 24, math.MinInt, math.MinInt + 1, greatest, greatest - 1, 1 << 32, 1<<32 + 1, -1 << 32} {
			p := api.Scope{Setup: setupOf(three)}
			*numbersOf(&p)[name] = n
			expectScope(t, p, n >= 0 && n <= 12)
			p = api.Scope{Setup: setupOf(three), Depth: 12, Ticks: 12, Drops: 12, Copies: 12, Crashes: 12}
			*numbersOf(&p)[name] = n
			expectScope(t, p, n >= 0 && n <= 12)
		}
	}
}

func TestOpsOfAScope(t *testing.T) {
	op := write(1023, string(make([]byte, 64)))
	for n := range 20 {
		p := api.Scope{Setup: setupOf(three, 0), Ops: slices.Repeat([]api.Op{op}, n), Depth: 1}
		expectScope(t, p, n <= 12)
		p.Depth, p.Setup.Clients = 0, nil
		expectScope(t, p, n <= 12)
	}
	wrong := []api.Op{
		{}, {Kind: 5}, {Kind: -1}, {Kind: greatest}, write(-1, ""), write(1024, "a"), write(0, string(make([]byte, 65))),
		{Kind: api.OpAppend, Slot: 1, Value: "a"}, {Kind: api.OpAppend, Value: string(make([]byte, 65))},
		read(-1), read(1024), {Kind: api.OpRead, Slot: 1, Value: "a"}, {Kind: api.OpCount, Slot: 1}, {Kind: api.OpCount, Value: "a"},
	}
	right := []api.Op{write(0, ""), op, add(""), add(string(make([]byte, 64))), read(0), read(1023), count}
	for n := range 12 {
		for _, x := range slices.Concat(wrong, right) {
			ops := slices.Repeat([]api.Op{op}, 11)
			ops = slices.Insert(ops, n, x)
			// Those that can't come within the depth count too.
			expectScope(t, api.Scope{Setup: setupOf(three, 0), Ops: ops, Depth: 1}, slices.Contains(right, x))
		}
	}
}

func TestSetupsOfAScope(t *testing.T) {
	for _, c := range []api.Config{
		{}, {F: 0, Room: 4, Patience: 6}, {F: 4, Room: 4, Patience: 6}, {F: 1, Room: 0, Patience: 6}, {F: 1, Room: 257, Patience: 6}, {F: 1, Room: 4, Patience: 5},
		{F: 1, Room: 4, Patience: 101}, {F: math.MinInt, Room: 4, Patience: 6}, {F: greatest, Room: greatest, Patience: greatest, Unguarded: true},
	} {
		expectScope(t, api.Scope{Setup: setupOf(c, 0), Depth: 1}, false)
		if is, e := explore.Alike(setupOf(c), nil, nil); is || e != api.ErrScope {
			t.Fatal(c, is, e)
		}
	}
	for _, c := range []api.Config{three, unsure, five, seven, {F: 3, Room: 256, Patience: 6}, {F: 1, Room: 1, Patience: 100}} {
		expectScope(t, api.Scope{Setup: setupOf(c, 0), Depth: 1}, true)
		expectAlike(t, setupOf(c), nil, nil, true)
	}
	for n := range 20 {
		for _, numbers := range [][]int{slices.Repeat([]int{greatest}, n), slices.Repeat([]int{0}, n)} {
			expectScope(t, api.Scope{Setup: setupOf(three, numbers...)}, n <= 16)
		}
		if is, e := explore.Alike(setupOf(three, make([]int, n)...), nil, nil); is != (n <= 16) || (e == api.OK) != is {
			t.Fatal(n, is, e)
		}
	}
	for _, n := range []int{-1, math.MinInt} {
		expectScope(t, api.Scope{Setup: setupOf(three, 0, n)}, false)
		if is, e := explore.Alike(setupOf(three, n), nil, nil); is || e != api.ErrScope {
			t.Fatal(n, is, e)
		}
	}
}

// Events that no cluster takes, each for one reason.
func refused() []api.Event {
	return []api.Event{
		{}, {Kind: 13}, {Kind: -1}, submit(1, write(7, "a")), submit(-1, write(7, "a")), submit(0, write(-1, "")), retry(1), deliver(-1), drop(-1), twice(-1),
		spoil(0, 0, 0), spoil(0, 0, 256), spoil(0, -1, 1), inject(0, 3, nil), inject(3, 0, nil), inject(8, 0, nil), inject(0, 0, make([]byte, 32769)),
		tick(3), tick(-1), crash(3), restart(3, lo(1)), restart(0, lo(0)), query(0, 3, count), query(0, 0, write(1, "")), round(0), round(10001),
		{Kind: api.EventDeliver, Cut: -1}, {Kind: api.EventTick, Cut: -1}, {Kind: api.EventRestart, Draw: lo(1), Cut: -1},
	}
}

func TestBeforeThatIsRefused(t *testing.T) {
	s := setupOf(three, 0)
	fine := []api.Event{submit(0, write(7, "a")), deliver(0), tick(1), crash(2), round(2)}
	for _, e := range refused() {
		for n := range len(fine) + 1 {
			before := slices.Insert(slices.Clone(fine), n, e)
			p := api.Scope{Setup: s, Before: before, Depth: 3}
			expectScope(t, p, false)
			expectNoMoves(t, p, []api.Event{tick(0)}, api.ErrScope)
			// Behind a Before that may be it is a script that may not: ErrArg.
			p.Before = fine[:n]
			if len(before[n:]) <= 3 {
				expectNoMoves(t, p, before[n:], api.ErrArg)
			}
			for _, other := range [][]api.Event{nil, fine, before} {
				for _, pair := range [][2][]api.Event{{before, other}, {other, before}} {
					if is, errno := explore.Alike(s, pair[0], pair[1]); is || errno != api.ErrScope {
						t.Fatalf("%+v: %v, %d", pair, is, errno)
					}
				}
			}
		}
	}
	expectScope(t, api.Scope{Setup: s, Before: fine, Depth: 3}, true)
}

func TestTheLengthOfBefore(t *testing.T) {
	s := setupOf(three)
	for _, n := range []int{4083, 4084} {
		p := api.Scope{Setup: s, Before: repeated(n, retry(0)), Depth: 12, Ticks: 12}
		p.Setup.Clients = []api.ClientSetup{{}}
		expectScope(t, p, true)
		// There is room for as many events as there may be behind it.
		expectMoves(t, p, repeated(11, retry(0)), each(tick, 0, 1, 2))
		expectMoves(t, p, repeated(12, retry(0)))
		p.Depth = 1
		expectFinding(t, p, api.Finding{Scripts: 4, States: 4, Deepest: 1})
	}
	for _, n := range []int{4085, 4086, 4096, 4097, 100000} {
		for _, e := range []api.Event{retry(0), tick(7)} {
			p := api.Scope{Setup: setupOf(three, 0), Before: repeated(n, e)}
			expectScope(t, p, false)
			expectNoMoves(t, p, repeated(1, tick(0)), api.ErrScope)
		}
	}
	// Alike asks of a script no more than that a cluster plays it.
	one, other := repeated(4096, tick(0)), repeated(4095, tick(0))
	expectAlike(t, s, one[:4095], other, true)
	expectAlike(t, s, one, append(slices.Clip(other), crash(0)), false)
	for _, l := range [][]api.Event{repeated(4097, tick(1)), repeated(9000, tick(1))} {
		for _, pair := range [][2][]api.Event{{l, other}, {other, l}, {l, l}} {
			if is, e := explore.Alike(s, pair[0], pair[1]); is || e != api.ErrScope {
				t.Fatal(len(l), is, e)
			}
		}
	}
}

// A script that is too long, or that no cluster plays; a scope that may not be is told ahead of it.
func TestWrongScripts(t *testing.T) {
	for depth := range 13 {
		p := api.Scope{Setup: setupOf(three, 0), Ops: []api.Op{count}, Depth: depth, Ticks: 1}
		for n := range 15 {
			script := repeated(n, retry(0))
			switch {
			case n > depth:
				expectNoMoves(t, p, script, api.ErrArg)
			case n == depth:
				expectMoves(t, p, script)
			default:
				expectMoves(t, p, script, []api.Event{submit(0, count)}, each(tick, 0, 1, 2))
			}
			wrong := p
			wrong.Drops = 13
			expectNoMoves(t, wrong, script, api.ErrScope)
		}
		for _, e := range refused() {
			expectNoMoves(t, p, repeated(1, e), api.ErrArg)
			expectNoMoves(t, p, append(repeated(depth, retry(0)), e), api.ErrArg)
		}
	}
	p := api.Scope{Setup: setupOf(three, 0), Depth: 12}
	for _, n := range []int{13, 14, 4000, 5000} {
		expectNoMoves(t, p, repeated(n, tick(1)), api.ErrArg)
	}
}

// A scope that may not be is told ahead of workers that may not.
func TestWrongWorkers(t *testing.T) {
	p := small(1)
	wrong := small(13)
	for _, workers := range []int{0, -1, 17, 18, 64, math.MinInt, math.MinInt + 1, greatest, greatest - 1, 1 << 32, 1<<32 + 1, -1 << 32} {
		expectNoFinding(t, p, workers, api.ErrArg)
		expectNoFinding(t, wrong, workers, api.ErrScope)
		expectNoFinding(t, api.Scope{}, workers, api.ErrScope)
		// One whose Before has a fault is a scope that may be.
		liar := api.Scope{Setup: setupOf(three), Before: []api.Event{inject(1, 2, forged(t, three, entry(0, 1, count))), deliver(0)}}
		expectNoFinding(t, liar, workers, api.ErrArg)
	}
	for workers := 1; workers <= 16; workers++ {
		if f := searched(t, p, workers); !sameFinding(f, api.Finding{Scripts: 2, States: 2, Deepest: 1}) {
			t.Fatal(workers, f)
		}
		expectNoFinding(t, wrong, workers, api.ErrScope)
	}
}
