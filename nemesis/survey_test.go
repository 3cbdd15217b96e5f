package nemesis_test

import (
	"math"
	"runtime"
	"slices"
	"strings"
	"sync/atomic"
	"testing"
	"time"

	"amnesia/api"
	"amnesia/cluster"
	"amnesia/history"
	"amnesia/nemesis"
)

// Survey: many seeds.

func surveyed(t *testing.T, plan string, seeds []uint64, workers int) []api.Trial {
	t.Helper()
	l, line, e := nemesis.Survey(plan, seeds, workers)
	if line != 0 || e != api.OK || len(l) != len(seeds) {
		t.Fatalf("%q: %d trials of %d, %d, %d", short(plan), len(l), len(seeds), line, e)
	}
	return l
}

// trialBy: a seed's trial by Compile, Run and Judge themselves.
func trialBy(t *testing.T, plan string, seed uint64) api.Trial {
	t.Helper()
	s, l := compiled(t, plan, seed)
	rows, _, e := cluster.Run(s, l)
	if e != api.OK {
		t.Fatal(e)
	}
	kinds := tells(rows)
	j, e := history.Judge(s, rows)
	if e != api.OK {
		t.Fatal(e)
	}
	return api.Trial{Seed: seed, Events: len(l), Replies: kinds[api.SeenReply], Leads: kinds[api.SeenLead], Returns: kinds[api.SeenBack], Fault: j.Fault}
}

// Each trial is what the three calls say by themselves, and what the model comes to, with any number of workers.
func TestTrials(t *testing.T) {
	t.Parallel()
	met := make(map[string]int)
	for _, plan := range []string{
		example, forgetful, group, head + "load 5\n", group + "crash 1\nrestart 1\ncalm 10\n",
		"group 2 20 6 unguarded\nclient 0\nclient 0\nload 4\nfault 10 10 10 10\nchurn 50 12\nload 3\nheal\ncalm 20\n",
		"group 3 4 7\nclient 0\nload 9\nfault 20 0 0 20\nsplit 0 3 5\nrun 12\nheal\nrun 6\n",
	} {
		seeds := []uint64{0, 1, math.MaxUint64, 1 << 63, 77, 1, 12345678901234567890}
		var want []api.Trial
		for _, seed := range seeds {
			x := trialBy(t, plan, seed)
			m, e := expectModel(t, plan, seed)
			if e != api.OK || m.trial(seed) != x {
				t.Fatal(plan, e, m.trial(seed), x)
			}
			want = append(want, x)
			met["replies"] += x.Replies
			met["leads"] += x.Leads
			met["returns"] += x.Returns
			if x.Fault > -1 {
				met["faults"]++
			}
		}
		for _, workers := range []int{1, 2, 3, 7, 8, 15, 16} {
			if l := surveyed(t, plan, seeds, workers); !slices.Equal(l, want) {
				t.Fatal(plan, workers, l, want)
			}
		}
		for n := range seeds {
			if l := surveyed(t, plan, seeds[:n], 3); !slices.Equal(l, want[:n]) {
				t.Fatal(plan, n, l)
			}
		}
	}
	expectEnough(t, met, map[string]int{"replies": 20, "leads": 10, "returns": 20, "faults": 3})
}

// Drawn plans and lists of seeds; a seed that has no script takes all trials with it.
func TestDrawnSurveys(t *testing.T) {
	t.Parallel()
	met := make(map[api.Errno]int)
	for k := range uint64(25) {
		r := seeded(9000 + k)
		plan := somePlan(r)
		if k%3 == 0 {
			plan = mangled(r, plan)
		}
		seeds := make([]uint64, r.IntN(6))
		for i := range seeds {
			seeds[i] = pick(r, r.Uint64(), uint64(i/2))
		}
		want, line, e := surveyBy(t, plan, seeds)
		got, at, f := nemesis.Survey(plan, seeds, 1+r.IntN(api.MaxWorkers))
		if !slices.Equal(got, want) || at != line || f != e {
			t.Fatalf("%q, %d: %+v, %d, %d, want %+v, %d, %d", plan, seeds, got, at, f, want, line, e)
		}
		met[e]++
	}
	expectEnough(t, met, map[api.Errno]int{api.OK: 8, api.ErrPlan: 1})
}

// surveyBy: a survey by Check and Compile, seed by seed.
func surveyBy(t *testing.T, plan string, seeds []uint64) ([]api.Trial, int, api.Errno) {
	t.Helper()
	if line, e := nemesis.Check(plan); e != api.OK {
		return nil, line, e
	}
	var l []api.Trial
	for _, seed := range seeds {
		if _, _, line, e := nemesis.Compile(plan, seed); e != api.OK {
			return nil, line, e
		}
		l = append(l, trialBy(t, plan, seed))
	}
	return l, 0, api.OK
}

func TestSeedsAndWorkers(t *testing.T) {
	plan := group + "client 0\nload 1\nrun 3\n"
	for _, workers := range []int{1, 2, 15, 16} {
		for _, seeds := range [][]uint64{nil, {}} {
			if l := surveyed(t, plan, seeds, workers); len(l) != 0 {
				t.Fatal(l)
			}
		}
		for _, n := range []int{1, 2, 63, 64} {
			for i, x := range surveyed(t, plan, upTo(n), workers) {
				if x != trialBy(t, plan, uint64(i)) {
					t.Fatal(i, x)
				}
			}
		}
		for _, n := range []int{65, 66, 128, 100000} {
			expectNoTrials(t, plan, upTo(n), workers, 0, api.ErrArg)
		}
	}
	for _, workers := range []int{0, -1, 17, 18, 64, math.MinInt, math.MinInt + 1, greatest, greatest - 1, 1 << 32, 1<<32 + 1} {
		for _, n := range []int{0, 1, 64, 65} {
			expectNoTrials(t, plan, upTo(n), workers, 0, api.ErrArg)
		}
	}
	// Ahead of all that a plan may have wrong; behind it with no seeds too.
	for _, wrong := range []string{"", "x\n", "heal\n", "group 0 20 6\n", group + strings.Repeat("client 0\n", 17), group + "run 0\n", strings.Repeat("\n", api.MaxLines+1), strings.Repeat(" ", api.MaxText+1)} {
		expectNoTrials(t, wrong, nil, 0, 0, api.ErrArg)
		expectNoTrials(t, wrong, upTo(65), 1, 0, api.ErrArg)
		line, e := nemesis.Check(wrong)
		expectNoTrials(t, wrong, nil, 16, line, e)
		expectNoTrials(t, wrong, upTo(64), 1, line, e)
	}
}

// A seed that stands twice has two trials, alike.
func TestSeedsTwice(t *testing.T) {
	t.Parallel()
	seeds := []uint64{5, 5, 9, 5, 9, 0, 0}
	for workers := range 4 {
		l := surveyed(t, example, seeds, workers+1)
		for i, seed := range seeds {
			if l[i] != trialBy(t, example, seed) {
				t.Fatal(workers+1, i, l)
			}
		}
	}
	same := surveyed(t, example, slices.Repeat([]uint64{4}, 64), 16)
	if same[0].Seed != 4 || slices.ContainsFunc(same, func(x api.Trial) bool { return x != same[0] }) {
		t.Fatal(same)
	}
}

// overflowing: a plan that has some twenty events less than there may be, and then, by the words, some more in a few lines.
var overflowing = group + strings.Repeat("crash 1\nrestart 1\n", 2035) + "clock 0 0\nclock 1 0\nclock 2 0\ncalm 3\nfault 100 0 0 0\nrun 1\nfault 0 0 0 100\n" + strings.Repeat("churn 50 30\n", 6)

// The first seed in the list that has no script is told, whoever comes to its end first.
func TestASeedWithoutAScript(t *testing.T) {
	t.Parallel()
	lines := make(map[uint64]int)
	var fine, wrong []uint64
	kinds := make(map[int]bool)
	for seed := range uint64(18) {
		_, l, line, e := nemesis.Compile(overflowing, seed)
		switch e {
		case api.OK:
			fine = append(fine, seed)
		case api.ErrBudget:
			wrong = append(wrong, seed)
		default:
			t.Fatal(seed, len(l), line, e)
		}
		lines[seed] = line
		kinds[line] = true
	}
	if len(fine) < 2 || len(wrong) < 4 || len(kinds) < 3 {
		t.Fatal(fine, wrong, kinds)
	}
	fine, wrong = fine[:2], wrong[:4]
	for _, workers := range []int{1, 5} {
		surveyed(t, overflowing, fine, workers)
		for _, seed := range wrong {
			expectNoTrials(t, overflowing, []uint64{seed}, workers, lines[seed], api.ErrBudget)
		}
		for i := range 4 {
			seeds := slices.Concat(fine[:i%2], wrong[i:], fine[:1])
			expectNoTrials(t, overflowing, seeds, workers, lines[wrong[i]], api.ErrBudget)
			slices.Reverse(seeds)
			expectNoTrials(t, overflowing, seeds, workers, lines[wrong[len(wrong)-1]], api.ErrBudget)
		}
	}
}

// No more goroutines than workers run at one time, and all have ended behind the call.
func TestWorkersEnd(t *testing.T) {
	before := runtime.NumGoroutine()
	for _, workers := range []int{1, 2, 5, api.MaxWorkers} {
		var most atomic.Int64
		stop, stopped := make(chan struct{}), make(chan struct{})
		go func() {
			defer close(stopped)
			for {
				select {
				case <-stop:
					return
				default:
					most.Store(max(most.Load(), int64(runtime.NumGoroutine())))
					time.Sleep(50 * time.Microsecond)
				}
			}
		}()
		surveyed(t, example, upTo(24), workers)
		close(stop)
		<-stopped
		if n := int(most.Load()) - before - 1; n > workers {
			t.Error("too many at one time:", n, workers)
		}
		if left := goroutinesLeft(before); left > 0 {
			t.Fatal("goroutines are left:", left)
		}
	}
	for workers := range api.MaxWorkers + 2 {
		nemesis.Survey(group+"run 1\n", upTo(20), workers)
		nemesis.Survey(group+"run 0\n", upTo(20), workers)
		nemesis.Survey(group, nil, workers)
	}
	nemesis.Survey(overflowing, upTo(20), 16)
	if left := goroutinesLeft(before); left > 0 {
		t.Error("goroutines are left:", left)
	}
}

// goroutinesLeft: how many more than so many there are, when they have had time: one that has said that it is done may still be on its way out.
func goroutinesLeft(before int) int {
	for range 100 {
		if runtime.NumGoroutine() <= before {
			return 0
		}
		time.Sleep(10 * time.Millisecond)
	}
	return runtime.NumGoroutine() - before
}
