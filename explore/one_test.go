package explore_test

import (
	"runtime"
	"slices"
	"sync"
	"sync/atomic"
	"testing"
	"time"

	"amnesia/api"
	"amnesia/explore"
)

// P24.4: one answer, for every number of workers, and each time.

func TestEveryNumberOfWorkers(t *testing.T) {
	t.Parallel()
	met := make(map[bool]int)
	for k := range uint64(60) {
		r := seeded(9000 + k)
		p := someScope(r)
		p.Depth = 1 + r.IntN(3)
		if len(moves(t, p, nil)) > 8 {
			p.Depth = 1
		}
		want := searched(t, p, 1)
		for workers := 1; workers <= api.MaxWorkers; workers++ {
			if f := searched(t, p, workers); !sameFinding(f, want) {
				t.Fatalf("%d workers: %+v, want %+v", workers, f, want)
			}
		}
		met[want.Found]++
	}
	expectEnough(t, met, map[bool]int{true: 5, false: 20})
}

// A fault in the midst of a level, with many scripts behind it that have one too: whoever plays them first.
func TestAFaultInTheMidst(t *testing.T) {
	t.Parallel()
	var noises []api.Event
	for i := range 20 {
		noises = append(noises, inject(0, 1, []byte{byte(i)}))
	}
	for lies := 1; lies < 5; lies++ {
		p := api.Scope{Setup: setupOf(three), Before: noises, Depth: 3, Ticks: 3}
		for i := range lies {
			p.Before = append(p.Before, inject(1, 2*(i%2), forged(t, three, entry(i, 1, opA))))
		}
		found := append(slices.Clip(p.Before), deliver(20))
		expectFinding(t, p, api.Finding{Scripts: 22, States: 21, Deepest: 1, Found: true, Script: found, Row: faultOf(t, p.Setup, found)})
	}
	// Two packets must come: behind each of the twenty, and the first of these, is the second one. They lie behind more scripts than are dealt out at one time.
	p := api.Scope{Setup: setupOf(three), Before: append(noises, halves(t, three, 2)...), Depth: 3}
	want := searched(t, p, 1)
	if len(want.Script) != len(p.Before)+2 || want.Scripts < 300 {
		t.Fatal(want)
	}
	for workers := 2; workers <= api.MaxWorkers; workers++ {
		if f := searched(t, p, workers); !sameFinding(f, want) {
			t.Fatal(workers, f)
		}
	}
}

// halves: a lie in two packets: a view that begins with an entry that nobody asked for, and that this is committed.
func halves(t *testing.T, c api.Config, node int) []api.Event {
	t.Helper()
	vector := make(api.Vector, 2*c.F+1)
	begins := frame(t, c, api.Msg{Kind: api.KindStartView, Node: 1, View: 1, Log: []api.Entry{entry(9, 1, opA)}, Vector: vector})
	return []api.Event{inject(1, node, begins), inject(1, node, frame(t, c, api.Msg{Kind: api.KindCommit, Node: 1, View: 1, Commit: 1, Vector: vector}))}
}

func TestEachTime(t *testing.T) {
	t.Parallel()
	p := votes(t, unsure, 1)
	want := searched(t, p, 4)
	if !want.Found {
		t.Fatal(want)
	}
	var wait sync.WaitGroup
	for range 4 {
		wait.Go(func() {
			for workers := range 3 {
				if f, e := explore.Search(p, 2+workers); e != api.OK || !sameFinding(f, want) {
					t.Error(f, e)
				}
			}
		})
	}
	wait.Wait()
}

// No more goroutines than workers run at one time, and all have ended behind the call.
func TestWorkersEnd(t *testing.T) {
	before := runtime.NumGoroutine()
	p := api.Scope{Setup: setupOf(three, 0), Ops: []api.Op{opA}, Depth: 5, Ticks: 2}
	for _, workers := range []int{1, 2, 5, api.MaxWorkers} {
		var most atomic.Int64
		stop, stopped := make(chan struct{}), make(chan struct{})
		go func() {
			defer close(stopped)
			for {
				select {
				case <-stop:
					return
				default:
					most.Store(max(most.Load(), int64(runtime.NumGoroutine())))
					time.Sleep(50 * time.Microsecond)
				}
			}
		}()
		searched(t, p, workers)
		close(stop)
		<-stopped
		if n := int(most.Load()) - before - 1; n > workers {
			t.Error("too many at one time:", n, workers)
		}
		if left := goroutinesLeft(before); left > 0 {
			t.Fatal("goroutines are left:", left)
		}
	}
	// With a fault, with none, with too many states, and with errors.
	liar := api.Scope{Setup: setupOf(three), Before: []api.Event{inject(1, 2, forged(t, three, entry(0, 1, opA)))}, Depth: 3, Ticks: 3}
	many := asleep(6, 0)
	many.Depth, many.Ticks, many.Drops, many.Copies = 12, 12, 12, 12
	many.Setup.Config.Patience = 6
	for workers := range api.MaxWorkers + 2 {
		explore.Search(liar, workers)
		explore.Search(small(3), workers)
		explore.Search(small(13), workers)
	}
	if !testing.Short() {
		explore.Search(many, 16)
	}
	if left := goroutinesLeft(before); left > 0 {
		t.Error("goroutines are left:", left)
	}
}

// goroutinesLeft: how many more than so many there are, when they have had time: one that has said that it is done may still be on its way out.
func goroutinesLeft(before int) int {
	for range 100 {
		if runtime.NumGoroutine() <= before {
			return 0
		}
		time.Sleep(10 * time.Millisecond)
	}
	return runtime.NumGoroutine() - before
}
