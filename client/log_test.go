package client_test

import (
	"math"
	"math/rand/v2"
	"slices"
	"strings"
	"testing"

	"amnesia/api"
	"amnesia/client"
)

// P5.1: which logs may be, and which error comes first.

func TestFullLog(t *testing.T) {
	for _, n := range []int{255, 256} {
		if _, e := client.Table(longLog(n), n); e != api.OK {
			t.Errorf("%d entries: %d", n, e)
		}
	}
	for _, n := range []int{257, 258, 512} {
		failLog(t, longLog(n), api.ErrFull)
	}
}

// Too many entries are told ahead of what is wrong with them.
func TestFullLogFirst(t *testing.T) {
	failLog(t, make([]api.Entry, 257), api.ErrFull)
	failLog(t, make([]api.Entry, 256), api.ErrNumber)
	twice := append(longLog(256), longLog(1)...)
	failLog(t, twice, api.ErrFull)
}

func TestClientsOfALog(t *testing.T) {
	for _, c := range noClients {
		failLog(t, []api.Entry{entry(c, 1, count())}, api.ErrClient)
		failLog(t, append(longLog(255), entry(c, 1, count())), api.ErrClient)
	}
	for c := range 16 {
		expectTable(t, []api.Entry{entry(c, 1, count())}, 0, pending(c, 1, 1))
	}
}

func TestNumbersOfALog(t *testing.T) {
	for _, n := range noNumbers {
		failLog(t, []api.Entry{entry(0, n, count())}, api.ErrNumber)
		failLog(t, append(longLog(255), entry(15, n, count())), api.ErrNumber)
	}
	for _, n := range []int{1, 2, 1 << 31, 1 << 32, api.MaxNumber - 1, api.MaxNumber} {
		expectTable(t, []api.Entry{entry(3, n, count())}, 0, pending(3, n, 1))
	}
}

func TestOperationsOfALog(t *testing.T) {
	for _, x := range wrongOps() {
		failLog(t, []api.Entry{entry(0, 1, x.op)}, x.e)
		failLog(t, append(example(), entry(1, 3, x.op)), x.e)
	}
	expectTable(t, []api.Entry{entry(0, 1, write(0, ""))}, 0, pending(0, 1, 1))
	expectTable(t, []api.Entry{entry(0, 1, write(1023, strings.Repeat("v", 64)))}, 0, pending(0, 1, 1))
}

// Example 4, and numbers that do not rise, one behind the other or with others between.
func TestTwiceInALog(t *testing.T) {
	failLog(t, []api.Entry{entry(1, 2, write(7, "a")), entry(1, 2, write(7, "a"))}, api.ErrTwice)
	failLog(t, append(example(), example()[2]), api.ErrTwice)
	failLog(t, append(example(), entry(2, 5, count())), api.ErrTwice)
	failLog(t, append(example(), entry(2, 4, count())), api.ErrTwice)
	failLog(t, append(example(), entry(1, 1, write(7, "a"))), api.ErrTwice)
	for c := range 16 {
		log := append(longLog(255), entry(c, 1, count()))
		failLog(t, log, api.ErrTwice)
		failLog(t, []api.Entry{entry(c, api.MaxNumber, count()), entry(c, api.MaxNumber, count())}, api.ErrTwice)
		failLog(t, []api.Entry{entry(c, api.MaxNumber, count()), entry(c, 1, count())}, api.ErrTwice)
		failLog(t, []api.Entry{entry(c, 9, count()), entry((c+1)%16, 1, count()), entry(c, 9, count())}, api.ErrTwice)
	}
}

// Above the greatest, not just above the one ahead.
func TestTwiceBelowAnEarlierOne(t *testing.T) {
	failLog(t, []api.Entry{entry(4, 1, count()), entry(4, 7, count()), entry(4, 6, count())}, api.ErrTwice)
	failLog(t, []api.Entry{entry(4, 7, count()), entry(5, 1, count()), entry(5, 2, count()), entry(4, 1, count())}, api.ErrTwice)
}

// Other clients' numbers are their own affair.
func TestSameNumbersOfUnlikeClients(t *testing.T) {
	log := []api.Entry{entry(0, 9, count()), entry(1, 9, count()), entry(2, 1, count()), entry(15, api.MaxNumber, count()), entry(14, api.MaxNumber, count())}
	expectTable(t, log, 0, pending(0, 9, 1), pending(1, 9, 2), pending(2, 1, 3), pending(14, api.MaxNumber, 5), pending(15, api.MaxNumber, 4))
}

// Of one entry with several faults the first by the chapter's order.
func TestOrderWithinAnEntry(t *testing.T) {
	ahead := entry(1, 5, count())
	for _, x := range wrongOps() {
		for _, c := range noClients {
			for _, n := range noNumbers {
				failLog(t, []api.Entry{ahead, entry(c, n, x.op)}, api.ErrClient)
			}
			failLog(t, []api.Entry{ahead, entry(c, 5, x.op)}, api.ErrClient)
		}
		for _, n := range noNumbers {
			failLog(t, []api.Entry{ahead, entry(1, n, x.op)}, api.ErrNumber)
		}
		failLog(t, []api.Entry{ahead, entry(1, 5, x.op)}, x.e)
		failLog(t, []api.Entry{ahead, entry(1, 4, x.op)}, x.e)
	}
	for _, n := range noNumbers { // it does not rise either
		failLog(t, []api.Entry{ahead, entry(1, n, count())}, api.ErrNumber)
	}
}

// Of several faulty entries the first, whichever its fault is.
func TestOrderOfEntries(t *testing.T) {
	ahead := entry(1, 5, count())
	faulty := []struct {
		entry api.Entry
		e     api.Errno
	}{
		{entry(16, 1, count()), api.ErrClient}, {entry(1, 0, count()), api.ErrNumber}, {entry(1, 6, api.Op{}), api.ErrOp},
		{entry(1, 6, read(-1)), api.ErrSlot}, {entry(1, 6, api.Op{Kind: api.OpCount, Value: "x"}), api.ErrValue}, {entry(1, 5, count()), api.ErrTwice},
	}
	for _, a := range faulty {
		for _, b := range faulty {
			failLog(t, []api.Entry{ahead, a.entry, b.entry}, a.e)
			failLog(t, []api.Entry{ahead, entry(0, 1, count()), a.entry, entry(0, 2, count()), b.entry}, a.e)
		}
	}
}

// The faults of a log, found in another way: each entry is held against all ahead of it.
func wantLogError(log []api.Entry) api.Errno {
	if len(log) > 256 {
		return api.ErrFull
	}
	for i, e := range log {
		if e.Client < 0 || e.Client > 15 {
			return api.ErrClient
		}
		if e.Number <= 0 {
			return api.ErrNumber
		}
		for _, x := range wrongOps() {
			if x.op == e.Op {
				return x.e
			}
		}
		for _, ahead := range log[:i] {
			if ahead.Client == e.Client && ahead.Number >= e.Number {
				return api.ErrTwice
			}
		}
	}
	return api.OK
}

func TestLogErrors(t *testing.T) {
	r := rand.New(rand.NewPCG(5, 1))
	met := map[api.Errno]int{}
	for range 3000 {
		log := someLog(r, r.IntN(12))
		for range r.IntN(4) {
			if len(log) == 0 {
				break
			}
			at := r.IntN(len(log))
			switch r.IntN(5) {
			case 0:
				log[at].Client = noClients[r.IntN(len(noClients))]
			case 1:
				log[at].Number = noNumbers[r.IntN(len(noNumbers))]
			case 2:
				log[at].Op = wrongOps()[r.IntN(len(wrongOps()))].op
			case 3:
				log = slices.Insert(log, at, log[r.IntN(len(log))])
			case 4:
				log[at].Number = 1 + r.IntN(9)
			}
		}
		want := wantLogError(log)
		met[want]++
		if want != api.OK {
			failLog(t, log, want)
		} else if _, e := client.Table(log, len(log)); e != api.OK {
			t.Fatalf("Table(%v): %d", log, e)
		}
	}
	for _, e := range []api.Errno{api.OK, api.ErrClient, api.ErrNumber, api.ErrOp, api.ErrSlot, api.ErrValue, api.ErrTwice} {
		if met[e] < 20 {
			t.Errorf("the error %d was met %d times", e, met[e])
		}
	}
}

// ErrCommit, and what is told ahead of it and behind it.

func TestCommitEdges(t *testing.T) {
	for _, log := range [][]api.Entry{nil, {}, example()[:1], example(), longLog(256)} {
		n := len(log)
		for _, commit := range []int{0, n} {
			if _, e := client.Table(log, commit); e != api.OK {
				t.Errorf("Table of %d entries, %d: %d", n, commit, e)
			}
			if _, _, e := client.Ask(log, commit, 0, 1); e != api.OK {
				t.Errorf("Ask of %d entries, %d: %d", n, commit, e)
			}
		}
		for _, commit := range []int{-1, n + 1, -n - 1, math.MinInt, math.MaxInt, 1 << 32, -1 << 32} {
			failTable(t, log, commit, api.ErrCommit)
			failAsk(t, log, commit, 0, 1, api.ErrCommit)
			failAsk(t, log, commit, 15, api.MaxNumber, api.ErrCommit)
			failAsk(t, log, commit, 16, 0, api.ErrCommit) // ahead of ErrClient and ErrNumber
		}
	}
}

// The room behind a log's end is no part of it.
func TestCommitInTheRoomBehind(t *testing.T) {
	log := example()[:1]
	failTable(t, log, 2, api.ErrCommit)
	failAsk(t, log, 2, 1, 1, api.ErrCommit)
	failBetween(t, log, 0, 2, api.ErrCommit)
	failBetween(t, log, 1, 3, api.ErrCommit)
}

func TestBetweenEdges(t *testing.T) {
	for _, log := range [][]api.Entry{nil, {}, example()[:1], example(), longLog(256)} {
		n := len(log)
		outside := []int{-1, n + 1, math.MinInt, math.MaxInt}
		for _, x := range outside {
			for _, y := range append([]int{0, n}, outside...) {
				failBetween(t, log, x, y, api.ErrCommit)
				failBetween(t, log, y, x, api.ErrCommit)
			}
		}
		for from := range n + 1 {
			expectBetween(t, log, from, from)
			for to := range from {
				failBetween(t, log, from, to, api.ErrCommit)
			}
		}
	}
}

func TestAskedClients(t *testing.T) {
	for _, log := range [][]api.Entry{nil, example(), longLog(256)} {
		for _, c := range noClients {
			failAsk(t, log, 0, c, 1, api.ErrClient)
			failAsk(t, log, len(log), c, api.MaxNumber, api.ErrClient)
			for _, n := range noNumbers {
				failAsk(t, log, 0, c, n, api.ErrClient)
			}
		}
		for c := range 16 {
			for _, n := range noNumbers {
				failAsk(t, log, 0, c, n, api.ErrNumber)
				failAsk(t, log, len(log), c, n, api.ErrNumber)
			}
			for _, n := range []int{1, api.MaxNumber} {
				if v, _, e := client.Ask(log, len(log), c, n); e != api.OK || v == 0 {
					t.Errorf("Ask of %d entries, %d, %d: %d, %d", len(log), c, n, v, e)
				}
			}
		}
	}
}
