package engine_test

import (
	"math"
	"runtime"
	"slices"
	"strings"
	"sync"
	"testing"
	"time"

	"amnesia/api"
	"amnesia/engine"
)

// expectOutcome: Play of a text, and Batch of it alone.
func expectOutcome(t *testing.T, text string, want api.Outcome) {
	t.Helper()
	if r, line, e := engine.Play(text); (api.Outcome{Report: r, Line: line, Err: e}) != want {
		t.Fatalf("%q: %q, %d, %d, want %+v", short(text), r, line, e, want)
	}
	if l, e := engine.Batch([]string{text}, 1); e != api.OK || !slices.Equal(l, []api.Outcome{want}) {
		t.Fatalf("%q: %+v, %d, want %+v", short(text), l, e, want)
	}
}

// alone: Play of each text by itself.
func alone(texts []string) []api.Outcome {
	l := make([]api.Outcome, len(texts))
	for i, text := range texts {
		l[i].Report, l[i].Line, l[i].Err = engine.Play(text)
	}
	return l
}

func expectBatch(t *testing.T, texts []string, workers int, want []api.Outcome) {
	t.Helper()
	if got, e := engine.Batch(texts, workers); e != api.OK || !slices.Equal(got, want) {
		t.Fatalf("%d workers: %d, %+v, want %+v", workers, e, got, want)
	}
}

// someTexts: scripts, those that are wrong and the same ones again among them.
func someTexts(seed uint64, n int) []string {
	r := seeded(seed)
	var texts []string
	for range n {
		text := someText(r, 40)
		switch {
		case r.IntN(4) == 0:
			text = mangled(r, text)
		case r.IntN(8) == 0:
			text = pick(r, "", "x", "group 0 4 6\n", strings.Repeat("\n", api.MaxLines+1), strings.Repeat("#", api.MaxText+1), "group 1 4 6"+strings.Repeat("\nclient 0", 17))
		case len(texts) > 0 && r.IntN(6) == 0:
			text = pick(r, texts...)
		}
		texts = append(texts, text)
	}
	return texts
}

// P17.4: the same as Play, with each number of workers, again and again.
func TestBatchIsPlay(t *testing.T) {
	t.Parallel()
	met := make(map[api.Errno]int)
	for seed := range uint64(6) {
		texts := someTexts(90000+seed, pick(seeded(seed), 1, 2, 5, 17, 40, api.MaxRuns))
		want := alone(texts)
		for _, o := range want {
			met[o.Err]++
		}
		for workers := 1; workers <= api.MaxWorkers; workers++ {
			expectBatch(t, texts, workers, want)
		}
		for range 10 {
			expectBatch(t, texts, api.MaxWorkers, want)
		}
	}
	expectEnough(t, met, map[api.Errno]int{api.OK: 20, api.ErrLine: 3})
}

// No text changes another's outcome: with others beside it, in another order, each has its own.
func TestTextsApart(t *testing.T) {
	t.Parallel()
	texts := someTexts(91000, 30)
	want := alone(texts)
	r := seeded(91001)
	for range 20 {
		order := r.Perm(len(texts))[:1+r.IntN(len(texts))]
		var some []string
		var outcomes []api.Outcome
		for _, i := range order {
			some, outcomes = append(some, texts[i]), append(outcomes, want[i])
		}
		expectBatch(t, some, 1+r.IntN(api.MaxWorkers), outcomes)
	}
}

func TestErrorsBesideOthers(t *testing.T) {
	texts := []string{example, "x\n", example, "", "group 0 4 6\n", "pool", example, strings.Repeat("#", api.MaxText+1), "group 1 4 6\n\n\ntick"}
	good := api.Outcome{Report: played(t, example)}
	want := []api.Outcome{good, {Line: 1, Err: api.ErrLine}, good, {Line: 1, Err: api.ErrOrder}, {Err: api.ErrConfig}, {Line: 1, Err: api.ErrOrder}, good, {Err: api.ErrText}, {Line: 4, Err: api.ErrLine}}
	for workers := 1; workers <= api.MaxWorkers; workers++ {
		expectBatch(t, texts, workers, want)
	}
}

func TestNumbersOfTextsAndWorkers(t *testing.T) {
	for workers := 1; workers <= api.MaxWorkers; workers++ {
		expectBatch(t, nil, workers, nil)
		expectBatch(t, []string{}, workers, nil)
	}
	full := slices.Repeat([]string{example}, api.MaxRuns)
	want := alone(full)
	for _, workers := range []int{1, 2, api.MaxWorkers} {
		expectBatch(t, full, workers, want)
	}
	for _, workers := range []int{0, -1, api.MaxWorkers + 1, math.MinInt, math.MaxInt, 1 << 32, 1<<32 + 1} {
		for _, texts := range [][]string{nil, {example}, full, {"x"}} {
			expectNoBatch(t, texts, workers)
		}
	}
	for _, texts := range [][]string{append(full, example), append(full, "x"), make([]string, 65), make([]string, 1000)} {
		for _, workers := range []int{1, api.MaxWorkers, 0, -1} {
			expectNoBatch(t, texts, workers)
		}
	}
}

func expectNoBatch(t *testing.T, texts []string, workers int) {
	t.Helper()
	if l, e := engine.Batch(texts, workers); e != api.ErrArg || len(l) != 0 {
		t.Fatal(len(texts), workers, l, e)
	}
}

// Several batches at one time do not know of each other.
func TestBatchesSideBySide(t *testing.T) {
	t.Parallel()
	var all sync.WaitGroup
	for k := range uint64(6) {
		texts := someTexts(92000+k, 12)
		want := alone(texts)
		all.Go(func() {
			for workers := 1; workers <= api.MaxWorkers; workers += 3 {
				if got, e := engine.Batch(texts, workers); e != api.OK || !slices.Equal(got, want) {
					t.Error(workers, e, got, want)
				}
			}
		})
	}
	all.Wait()
}

// workersNow: how many goroutines are in a worker of a Batch.
func workersNow() int {
	b := make([]byte, 1<<20)
	n := 0
	for _, stack := range strings.Split(string(b[:runtime.Stack(b, true)]), "\n\n") {
		if strings.Contains(stack, "amnesia/engine.Batch.") {
			n++
		}
	}
	return n
}

// All goroutines have ended when Batch answers; and there are never more of them than workers, nor than texts. (It must run by itself: other tests have batches of their own.)
func TestGoroutines(t *testing.T) {
	seen := 0
	long := "group 1 4 6\nclient 0\nsubmit 0 write 7 61\nround 300\n"
	for _, x := range []struct{ texts, workers int }{{1, 1}, {1, 16}, {5, 1}, {8, 2}, {12, 5}, {3, 16}, {64, 16}} {
		done, most := make(chan int), 0
		go func() {
			engine.Batch(slices.Repeat([]string{long}, x.texts), x.workers)
			done <- 0
		}()
		for over := false; !over; {
			most = max(most, workersNow())
			select {
			case <-done:
				over = true
			default:
			}
		}
		seen += most
		if most > min(x.workers, x.texts) {
			t.Errorf("%d workers at one time, of %d texts, want at most %d", most, x.texts, x.workers)
		}
	}
	if seen < 5 {
		t.Error("no worker was seen:", seen)
	}
	before := runtime.NumGoroutine()
	for workers := 1; workers <= api.MaxWorkers; workers++ {
		engine.Batch(slices.Repeat([]string{example, "x"}, 20), workers)
		engine.Batch(nil, workers)
		engine.Batch([]string{example}, 0)
	}
	for range 100 { // one that has said that it is done may still be on its way out
		if runtime.NumGoroutine() <= before {
			return
		}
		time.Sleep(10 * time.Millisecond)
	}
	t.Error("goroutines are left:", runtime.NumGoroutine(), before)
}
