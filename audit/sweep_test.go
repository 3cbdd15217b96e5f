package audit_test

import (
	"slices"
	"testing"

	"amnesia/api"
	"amnesia/audit"
	"amnesia/tree"
)

// P21.1: Sweep.

func expectSweep(t *testing.T, c api.Config, l []api.State, want ...api.Fork) {
	t.Helper()
	mustBe(t, c, l...)
	forks, e := audit.Sweep(c, l)
	if e != api.OK || !slices.Equal(forks, want) {
		t.Fatalf("Sweep: %+v, %d, want %+v: %+v", forks, e, want, l)
	}
	if model, e := modelSweep(c, l); e != api.OK || !slices.Equal(model, want) {
		t.Fatalf("the model has %+v, %d, want %+v: %+v", model, e, want, l)
	}
}

func expectNoSweep(t *testing.T, c api.Config, l []api.State, want api.Errno) {
	t.Helper()
	if forks, e := audit.Sweep(c, l); e != want || len(forks) != 0 {
		t.Fatalf("Sweep: %+v, %d, want %d: %+v", forks, e, want, l)
	}
}

func states(l ...api.State) []api.State { return l }

// told: what a replica would claim of its first entries.
func told(s api.State, size int) api.Claim {
	return api.Claim{Node: s.Self, View: s.View, Size: size, Head: tree.Head(s.Log[:size])}
}

func TestSweepErrors(t *testing.T) {
	a, b := normal(three, 0, 0, logOf(2), 2), normal(three, 1, 0, otherLog(logOf(2), 1), 2)
	for _, c := range wrongConfigs() {
		expectNoSweep(t, c, nil, api.ErrConfig)
		expectNoSweep(t, c, states(a), api.ErrConfig)
		expectNoSweep(t, c, states(a, b), api.ErrConfig)
		expectNoSweep(t, c, wrongStates(three), api.ErrConfig)
	}
	for _, s := range wrongStates(three) {
		expectNoSweep(t, three, states(s), api.ErrState)
		expectNoSweep(t, three, states(s, a, b), api.ErrState)
		expectNoSweep(t, three, states(a, s, b), api.ErrState)
		expectNoSweep(t, three, states(a, b, s), api.ErrState)
		expectNoSweep(t, three, states(recovering(three, 2), s), api.ErrState)
	}
	expectNoSweep(t, three, states(a, normal(five, 0, 0, nil, 0)), api.ErrState)
}

func TestSweepOfFewStates(t *testing.T) {
	expectSweep(t, three, nil)
	expectSweep(t, three, []api.State{})
	expectSweep(t, three, states(recovering(three, 0)))
	expectSweep(t, three, states(recovering(three, 0), recovering(three, 1), recovering(three, 2)))
	for n := range 5 {
		for commit := range n + 1 {
			for _, s := range ups(three, logOf(n), commit) {
				expectSweep(t, three, states(s))
				expectSweep(t, three, states(s, s))
				expectSweep(t, three, states(s, recovering(three, 1)))
				expectSweep(t, three, states(recovering(three, 1), s))
			}
		}
	}
}

// Two states: their first entries up to the lesser commit number are held against each other, and nothing behind.
func TestSweepOfTwo(t *testing.T) {
	l := logOf(9)
	for at := 1; at <= 9; at++ {
		other := otherLog(l, at)
		for one := range 10 {
			for two := range 10 {
				a, b := normal(five, 3, 4, l, one), changing(five, 1, 7, other, two)
				if m := min(one, two); m < at {
					expectSweep(t, five, states(a, b))
					expectSweep(t, five, states(b, a))
				} else {
					expectSweep(t, five, states(a, b), api.Fork{A: told(a, m), B: told(b, m)})
					expectSweep(t, five, states(b, a), api.Fork{A: told(b, m), B: told(a, m)})
				}
			}
		}
	}
}

// The order of the forks: by the first of the two, then by the second.
func TestSweepsOrder(t *testing.T) {
	l := logOf(4)
	a, b, c, d := normal(five, 4, 0, l, 3), normal(five, 0, 9, otherLog(l, 1), 4), changing(five, 2, 1, otherLog(l, 2), 2), normal(five, 1, 1, l, 1)
	fork := func(x, y api.State, m int) api.Fork { return api.Fork{A: told(x, m), B: told(y, m)} }
	expectSweep(t, five, states(a, b, c, d), fork(a, b, 3), fork(a, c, 2), fork(b, c, 2), fork(b, d, 1))
	expectSweep(t, five, states(d, c, b, a), fork(d, b, 1), fork(c, b, 2), fork(c, a, 2), fork(b, a, 3))
	expectSweep(t, five, states(b, recovering(five, 1), d, recovering(five, 3), c), fork(b, d, 1), fork(b, c, 2))
	expectSweep(t, five, states(a, b, a, b), fork(a, b, 3), fork(a, b, 3), fork(b, a, 3), fork(a, b, 3))
}

// The same replica twice, in unlike states, is a fork too.
func TestSweepOfOneReplicaTwice(t *testing.T) {
	l := logOf(3)
	a, b := normal(three, 1, 2, l, 2), normal(three, 1, 2, otherLog(l, 2), 3)
	expectSweep(t, three, states(a, b), api.Fork{A: told(a, 2), B: told(b, 2)})
}

// P21.3: histories that begin one another have no fork.
func TestSweepOfBeginnings(t *testing.T) {
	l := logOf(40)
	for n := range 41 {
		var all []api.State
		for commit := n; commit >= 0; commit -= 1 + n/6 {
			all = append(all, ups(five, l[:n], commit)...)
			if commit < n {
				all = append(all, normal(five, 2, 1, otherLog(l[:n], commit+1), commit))
			}
		}
		expectSweep(t, five, all)
	}
}

func TestSweepOfFullLogs(t *testing.T) {
	l := logOf(256)
	var all []api.State
	for node := range 7 {
		all = append(all, normal(seven, node, node, l, 256))
	}
	expectSweep(t, seven, all)
	all[3].Log = otherLog(l, 256)
	all[5].Commit = 255
	var want []api.Fork
	for _, node := range []int{0, 1, 2} {
		want = append(want, api.Fork{A: told(all[node], 256), B: told(all[3], 256)})
	}
	for _, node := range []int{4, 6} {
		want = append(want, api.Fork{A: told(all[3], 256), B: told(all[node], 256)})
	}
	expectSweep(t, seven, all, want...)
}

// Any lists, against the chapter's words.
func TestSweepOfAny(t *testing.T) {
	met := make(map[string]int)
	for seed := range uint64(300) {
		r := seeded(3000 + seed)
		c := pick(r, three, five)
		l := someStates(r, c, r.IntN(14))
		want, e := modelSweep(c, l)
		if e != api.OK {
			t.Fatal(e)
		}
		expectSweep(t, c, l, want...)
		met["forks"] += len(want)
		if len(want) == 0 && len(l) > 1 {
			met["no fork"]++
		}
		expectEvidence(t, want, func(k api.Claim) bool {
			return slices.ContainsFunc(l, func(s api.State) bool { return s.Commit >= k.Size && told(s, k.Size) == k })
		})
	}
	expectEnough(t, met, map[string]int{"forks": 500, "no fork": 50})
}
