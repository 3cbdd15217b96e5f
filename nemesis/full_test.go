package nemesis_test

import (
	"strings"
	"testing"

	"amnesia/api"
)

// As many events as there may be, and one more.

// A plan of so many events (from 3 on) on so many lines behind the head: replica 1 crashes and starts again, over and over.
func lifeLines(events int) string {
	return strings.Repeat("crash 1\nrestart 1\n", events/2) + strings.Repeat("crash 2\n", events%2)
}

const last = "group 1 20 6\nclient 9223372036854775807\n"

// What lays something, and what does not.
func TestOneEventMore(t *testing.T) {
	t.Parallel()
	// A seed with which the one client's first act is a request, which would be refused.
	seed := submits()
	full := last + lifeLines(api.MaxEvents)
	want := lives(1, 1, api.MaxEvents/2)
	line := 2 + api.MaxEvents
	for _, nothing := range []string{"", "restart 1\n", "heal\nstale 1\nrestart 0\nfault 0 0 0 100\nclock 0 0\nclock 1 0\nclock 2 0\nrun 20\nsplit 0 1\n# a remark\n\n"} {
		expectScript(t, full+nothing, seed, want...)
		for _, more := range []string{"crash 1\n", "crash 0\n", "calm 1\n", "calm 2000\ncrash 0\n", "clock 2 1\nrun 1\n", "load 1\n", "load 100\n"} {
			at := line + strings.Count(nothing+more, "\n")
			if strings.HasPrefix(more, "calm 2000") {
				at--
			}
			expectFull(t, full+nothing+more, seed, at)
		}
	}
	expectFull(t, full+"run 1\n", seed, line+1)
	expectFull(t, full+"churn 0 1\n", seed, line+1)
	expectFull(t, full+"heal\ncrash 1\nheal\nheal\n", seed, line+2)
	// One event less: the first one more is laid; the request, which is refused, is not, and a crash can follow.
	almost := last + lifeLines(api.MaxEvents-1)
	begin := lives(1, 1, api.MaxEvents/2-1)
	expectScript(t, almost, seed, joined(begin, one(crash(2)))...)
	expectScript(t, almost+"load 1\ncrash 0\n", seed, joined(begin, []api.Event{crash(2), crash(0)})...)
	expectFull(t, almost+"load 1\ncrash 0\nload 1\n", seed, line+2)
	expectFull(t, almost+"crash 0\ncalm 1\n", seed, line+1)
	expectFull(t, almost+"run 1\n", seed, line)
}

// expectFull: Check takes the plan, and Compile with that seed answers ErrBudget at that line; Survey too.
func expectFull(t *testing.T, plan string, seed uint64, line int) {
	t.Helper()
	expectRight(t, plan)
	expectNoScript(t, plan, seed, line, api.ErrBudget)
	expectNoTrials(t, plan, []uint64{seed}, 1, line, api.ErrBudget)
	if _, at, e := modelCompile(plan, seed); at != line || e != api.ErrBudget {
		t.Fatalf("the model has it otherwise: %q: %d, %d, want %d", short(plan), at, e, line)
	}
}

// The event too many in the midst of a line: of a load, of rounds, among a round's packets and its ticks.
func TestFullInTheMidst(t *testing.T) {
	t.Parallel()
	for _, seed := range []uint64{0, 1, 9} {
		loads := group + "client 0\nfault 0 0 0 100\n" + strings.Repeat("load 100\n", 40)
		expectScript(t, loads+"load 96\n", seed, acts(wordsOf(seed), 1, 3, api.MaxEvents)...)
		expectFull(t, loads+"load 97\n", seed, 44)
		expectFull(t, loads+"load 96\nload 1\n", seed, 45)
		expectFull(t, loads+"load 100\nheal\n", seed, 44)
	}
	for k := range uint64(6) {
		plan := group + "client 0\nload 3\nfault 10 10 10 10\nrun 100\nclock 2 9\nrun 100\n" + strings.Repeat("churn 30 10\nheal\n", 100)
		if _, e := expectModel(t, plan, k); e != api.ErrBudget {
			t.Fatal(k, e)
		}
	}
}

// Rounds of ticks alone, to the last event: 4096 is 455 times nine and one.
func TestFullByTicks(t *testing.T) {
	t.Parallel()
	quiet := "group 1 20 100\nclock 0 0\nclock 1 9\nclock 2 0\nfault 0 0 0 100\n"
	all := repeated(455*9, tick(1))
	expectScript(t, quiet+"run 455\ncalm 1\n", 3, joined(all, one(round(1)))...)
	expectFull(t, quiet+"run 2000\n", 3, 6)
	expectFull(t, quiet+"run 455\nrun 1\n", 3, 7)
	expectScript(t, quiet+"run 455\nclock 1 1\nrun 1\nclock 1 0\nrun 600\n", 3, joined(all, ticks(1))...)
}
