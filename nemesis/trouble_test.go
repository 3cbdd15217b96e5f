package nemesis_test

import (
	"fmt"
	"slices"
	"strings"
	"testing"

	"amnesia/api"
)

// clock, split, crash, restart, stale, churn.

func TestClocks(t *testing.T) {
	expectScript(t, group+"clock 1 3\nclock 2 0\nrun 1\n", 1, ticks(0, 1, 1, 1)...)
	expectScript(t, group+"clock 0 0\nclock 1 9\nrun 1\n", 1, joined(repeated(9, tick(1)), ticks(2))...)
	expectScript(t, group+"clock 2 9\nclock 1 9\nclock 0 9\nrun 1\n", 1, joined(repeated(9, tick(0)), repeated(9, tick(1)), repeated(9, tick(2)))...)
	expectScript(t, "group 3 20 100\nclock 6 2\nclock 0 0\nclock 3 1\nclock 1 5\nrun 1\n", 1, ticks(1, 1, 1, 1, 1, 2, 3, 4, 5, 6, 6)...)
	// The last line of a replica holds; other replicas do not know of it.
	expectScript(t, group+"clock 0 5\nclock 1 9\nclock 1 2\nrun 1\nclock 0 0\nclock 1 1\nfault 100 0 0 0\nrun 1\n", 1, joined(ticks(0, 0, 0, 0, 0, 1, 1, 2), repeated(10, drop(0)), ticks(1, 2))...)
	// Nothing happens where no clock goes, however long.
	expectScript(t, group+"client 0\nclock 0 0\nclock 1 0\nclock 2 0\nrun 2000\n", 1)
	// Who is crashed has no clock; who recovers has; and a crash changes no rate.
	expectScript(t, group+"clock 0 0\nclock 1 2\ncrash 1\nrun 1\nrestart 1\nrun 1\n", 1, joined(one(crash(1)), ticks(2), one(restart(1, 1)), repeated(2, deliver(0)), ticks(1, 1, 2))...)
	// It is the clock by which a replica's patience comes to its end.
	for rate := range 10 {
		u := played(t, fmt.Sprintf("%sclock 0 0\nclock 1 %d\nrun 1\n", group, rate), 1)
		if s, _ := u.Look(1); (s.Status == api.StatusChange) != (rate >= 6) {
			t.Fatal(rate, s)
		}
	}
}

// The two Commits of the first round are under way: to 1 and to 2.
func TestSplits(t *testing.T) {
	all := ticks(0, 1, 2)
	both, none := repeated(2, drop(0)), repeated(2, deliver(0))
	first, second := []api.Event{drop(0), deliver(0)}, []api.Event{deliver(0), drop(0)}
	for _, x := range []struct {
		lines string
		want  []api.Event
	}{
		{"split 0\n", both}, {"split 1 2\n", both}, {"split 2 1\n", both},
		{"split 1\n", first}, {"split 0 2\n", first}, {"split 2 0\n", first},
		{"split 2\n", second}, {"split 0 1\n", second},
		{"split 0 1 2\n", none}, {"split 2 0 1\n", none}, {"heal\n", none}, {"split 0\nheal\n", none}, {"split 1\nheal\nheal\n", none},
		{"split 0\nsplit 1\n", first}, {"split 1\nsplit 2\n", second}, {"split 1\nsplit 0 1 2\n", none}, {"heal\nsplit 0\n", both},
	} {
		expectScript(t, group+"run 1\n"+x.lines+"run 1\n", 6, joined(all, x.want, all)...)
		// From that line on, up to the next one.
		expectScript(t, group+x.lines+"run 2\n", 6, joined(all, x.want, all)...)
		expectScript(t, group+x.lines+"run 3\nheal\nrun 1\n", 6, joined(all, x.want, all, x.want, all, none, all)...)
		// A clock is not touched by it, nor is a calm round.
		expectScript(t, group+"run 1\n"+x.lines+"calm 3\n", 6, joined(all, one(round(3)))...)
	}
}

// What is across a split is lost ahead of all faults, and draws no word.
func TestSplitsAndWords(t *testing.T) {
	all := ticks(0, 1, 2)
	for seed := range uint64(20) {
		for split, words := range map[string]int{"split 0": 0, "split 1": 1, "split 0 1": 1, "heal": 2} {
			for _, fault := range []string{"0 0 0 0", "0 0 0 100", "0 100 0 0", "100 0 0 0"} {
				plan := group + "client 0\nrun 1\n" + split + "\nfault " + fault + "\nrun 1\nload 2\n"
				next := wordsOf(seed)
				for range words {
					next(100)
				}
				_, l := compiled(t, plan, seed)
				if want := acts(next, 1, 3, 2); !sameEvents(l[len(l)-2:], want) {
					t.Fatal(seed, plan, l, want)
				}
			}
		}
		expectScript(t, group+"run 1\nsplit 1\nfault 0 0 0 100\nrun 2\n", seed, joined(all, one(drop(0)), all, one(drop(1)), all)...)
	}
}

// Packets from clients and to them go across a split.
func TestClientsAcrossASplit(t *testing.T) {
	for _, split := range []string{"split 0", "split 1", "split 1 2", "split 0 2", "split 0 1 2"} {
		quiet := group + "client 0\nclock 0 0\nclock 1 0\nclock 2 0\n" + split + "\nload 1\n"
		seed := submits()
		expectScript(t, quiet+"run 1\n", seed, joined([]api.Event{acts(wordsOf(seed), 1, 3, 1)[0], retry(0)}, repeated(6, deliver(0)))...)
		for node := range 3 {
			seed := queries(node)
			want := []api.Event{acts(wordsOf(seed), 1, 3, 1)[0], deliver(0), deliver(0)}
			expectScript(t, quiet+"run 2\n", seed, want...)
			if c, _ := played(t, quiet+"run 2\n", seed).Client(0); c.Asks || c.Told.Code != api.ResNone {
				t.Fatal(split, node, c)
			}
		}
	}
}

// crash, restart and stale, of replicas that are up and that are down.
func TestLives(t *testing.T) {
	for _, x := range []struct {
		lines string
		want  []api.Event
	}{
		{"restart 1", nil}, {"stale 1", nil}, {"restart 1\nstale 1\nstale 0", nil},
		{"crash 1", one(crash(1))}, {"crash 1\ncrash 1", one(crash(1))}, {"crash 1\ncrash 2\ncrash 1\ncrash 0", []api.Event{crash(1), crash(2), crash(0)}},
		{"crash 1\nrestart 1\nrestart 1\nstale 1", []api.Event{crash(1), restart(1, 1)}},
		{"crash 1\nstale 1", []api.Event{crash(1), restart(1, 1)}},
		{"crash 1\nstale 1\ncrash 1\nstale 1\ncrash 1\nstale 1", []api.Event{crash(1), restart(1, 1), crash(1), restart(1, 1), crash(1), restart(1, 1)}},
		{"crash 1\nstale 1\ncrash 1\nrestart 1\ncrash 1\nstale 1\ncrash 1\nrestart 1", []api.Event{crash(1), restart(1, 1), crash(1), restart(1, 2), crash(1), restart(1, 2), crash(1), restart(1, 3)}},
		{"crash 1\nrestart 1\ncrash 1\nstale 1\ncrash 1\nrestart 1\ncrash 1\nrestart 1", []api.Event{crash(1), restart(1, 1), crash(1), restart(1, 1), crash(1), restart(1, 2), crash(1), restart(1, 3)}},
		// Each replica has draws of its own.
		{"crash 0\ncrash 1\nrestart 1\ncrash 1\nrestart 1\nrestart 0\ncrash 2\nstale 2\ncrash 0\nstale 0\ncrash 1\nstale 1", []api.Event{crash(0), crash(1), restart(1, 1), crash(1), restart(1, 2), restart(0, 1), crash(2), restart(2, 1), crash(0), restart(0, 1), crash(1), restart(1, 2)}},
		// One that recovers is alive.
		{"crash 2\nrestart 2\ncrash 2\ncrash 2", []api.Event{crash(2), restart(2, 1), crash(2)}},
		{"crash 2\nrestart 2\nrestart 2\nstale 2", []api.Event{crash(2), restart(2, 1)}},
	} {
		expectScript(t, group+x.lines+"\n", 2, x.want...)
		expectScript(t, strings.ReplaceAll(group+x.lines+"\n", "\n", "\nheal\n"), 3, x.want...)
	}
	expectScript(t, "group 3 20 6\n"+strings.Repeat("crash 6\nrestart 6\n", 40), 1, lives(6, 1, 40)...)
	for node := range 7 {
		expectScript(t, fmt.Sprintf("group 3 20 6\ncrash %d\nrestart %d\ncrash %d\n", node, node, node), 1, crash(node), restart(node, 1), crash(node))
	}
}

// lives: a replica crashes and starts again, with these draws.
func lives(node int, from, to uint64) []api.Event {
	var l []api.Event
	for k := from; k <= to; k++ {
		l = append(l, crash(node), restart(node, k))
	}
	return l
}

// A word that is not below P leaves a round as it would be without; it is drawn in any case, and ahead of all others of the round.
func TestChurnOfNone(t *testing.T) {
	for seed := range uint64(20) {
		next := wordsOf(seed)
		for range 3 + 2*2 { // three rounds, and two packets in two of them
			next(100)
		}
		begin := joined(ticks(0, 1, 2), repeated(2, deliver(0)), ticks(0, 1, 2), repeated(2, deliver(0)), ticks(0, 1, 2))
		expectScript(t, group+"client 0\nchurn 0 3\nload 2\n", seed, joined(begin, acts(next, 1, 3, 2))...)
	}
	for p := range 101 {
		for _, w := range []int{p - 1, p} {
			if w < 0 || w > 99 {
				continue
			}
			seed := withWord(w)
			_, l := compiled(t, fmt.Sprintf("%schurn %d 1\n", group, p), seed)
			if (len(l) > 0 && l[0].Kind == api.EventCrash) != (w < p) {
				t.Fatal(p, w, l)
			}
		}
	}
}

// Each round of a churn 100: who crashes, or starts again, by the words.
func TestChurn(t *testing.T) {
	fives := "group 2 20 6\n"
	for _, x := range []struct {
		before string
		begin  []api.Event
		// of each replica what happens if it is chosen; nothing with Kind 0
		chosen []api.Event
	}{
		{group, nil, []api.Event{crash(0), crash(1), crash(2)}},
		{group + "crash 0\n", one(crash(0)), []api.Event{restart(0, 1), {}, {}}},
		{group + "crash 1\n", one(crash(1)), []api.Event{{}, restart(1, 1), {}}},
		{group + "crash 0\nrestart 0\n", []api.Event{crash(0), restart(0, 1)}, []api.Event{crash(0), {}, {}}},
		{group + "crash 0\ncrash 1\n", []api.Event{crash(0), crash(1)}, []api.Event{restart(0, 1), restart(1, 1), {}}},
		{group + "crash 0\nrestart 0\ncrash 0\n", []api.Event{crash(0), restart(0, 1), crash(0)}, []api.Event{restart(0, 2), {}, {}}},
		{group + "crash 0\nstale 0\ncrash 0\nstale 0\ncrash 0\n", []api.Event{crash(0), restart(0, 1), crash(0), restart(0, 1), crash(0)}, []api.Event{restart(0, 2), {}, {}}},
		{group + "crash 0\ncrash 1\nrestart 0\nrestart 1\n", []api.Event{crash(0), crash(1), restart(0, 1), restart(1, 1)}, []api.Event{crash(0), crash(1), {}}},
		{group + "crash 0\ncrash 1\ncrash 2\n", []api.Event{crash(0), crash(1), crash(2)}, []api.Event{restart(0, 1), restart(1, 1), restart(2, 1)}},
		{fives + "crash 4\n", one(crash(4)), []api.Event{crash(0), crash(1), crash(2), crash(3), restart(4, 1)}},
		{fives + "crash 4\nrestart 4\n", []api.Event{crash(4), restart(4, 1)}, []api.Event{crash(0), crash(1), crash(2), crash(3), crash(4)}},
		{fives + "crash 4\nrestart 4\ncrash 1\n", []api.Event{crash(4), restart(4, 1), crash(1)}, []api.Event{{}, restart(1, 1), {}, {}, crash(4)}},
		{fives + "crash 2\ncrash 3\n", []api.Event{crash(2), crash(3)}, []api.Event{{}, {}, restart(2, 1), restart(3, 1), {}}},
		// Behind quiet rounds one that recovered is back.
		{group + "crash 2\nrestart 2\ncalm 4\n", []api.Event{crash(2), restart(2, 1), round(4)}, []api.Event{crash(0), crash(1), crash(2)}},
		{group + "crash 2\ncalm 4\nrestart 2\ncalm 4\ncrash 2\n", []api.Event{crash(2), round(4), restart(2, 1), round(4), crash(2)}, []api.Event{{}, {}, restart(2, 2)}},
	} {
		met := make(map[int]bool)
		for seed := range uint64(40) {
			next := wordsOf(seed)
			next(100)
			node := next(len(x.chosen))
			met[node] = true
			_, l := compiled(t, x.before+"fault 0 0 0 100\nchurn 100 1\n", seed)
			want := x.begin
			if x.chosen[node].Kind != 0 {
				want = append(slices.Clone(want), x.chosen[node])
			}
			rest := l[min(len(want), len(l)):]
			if len(l) < len(want) || !sameEvents(l[:len(want)], want) || slices.ContainsFunc(rest, func(e api.Event) bool { return e.Kind != api.EventTick }) {
				t.Fatal(x.before, seed, node, l, want)
			}
		}
		if len(met) != len(x.chosen) {
			t.Fatal(x.before, met)
		}
	}
}

// By churn alone never more than F are away, and all replicas take part.
func TestChurnKeepsFew(t *testing.T) {
	t.Parallel()
	for _, g := range groups {
		met := make(map[int]int)
		for seed := range uint64(12) {
			s, l := compiled(t, g.line+"fault 20 10 10 20\nchurn 100 40\n", seed)
			away := make(map[int]bool)
			for _, row := range ran(t, s, l) {
				switch row.Kind {
				case api.SeenDown, api.SeenUp:
					away[row.Node] = true
					met[row.Node]++
				case api.SeenBack:
					delete(away, row.Node)
				}
				if len(away) > s.Config.F {
					t.Fatal(g.line, seed, away)
				}
			}
		}
		if len(met) != g.nodes {
			t.Fatal(met)
		}
	}
}

// The draws of churn, restart and stale are of one row.
func TestDrawsOfAllLines(t *testing.T) {
	t.Parallel()
	met := 0
	for seed := range uint64(40) {
		_, l := compiled(t, group+"churn 100 30\nfault 0 0 0 50\ncrash 0\nrestart 0\nchurn 60 30\ncrash 1\nstale 1\ncrash 1\nrestart 1\nchurn 100 20\n", seed)
		last := make(map[int]uint64)
		for _, e := range l {
			if e.Kind != api.EventRestart {
				continue
			}
			if d := e.Draw; d.Hi != 0 || d.Lo != last[e.Node] && d.Lo != last[e.Node]+1 || d.Lo == 0 {
				t.Fatal(seed, e, last)
			}
			if e.Draw.Lo == last[e.Node] {
				met++
			}
			last[e.Node] = e.Draw.Lo
		}
		if last[0] < 2 || last[1] < 2 {
			t.Fatal("too few restarts:", last)
		}
	}
	if met < 20 || met > 40 {
		t.Fatal("stale draws:", met)
	}
}
