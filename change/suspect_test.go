package change_test

import (
	"testing"

	"amnesia/api"
	"amnesia/change"
)

// P11.1: Suspect and Again.

func expectSuspect(t *testing.T, what string, c api.Config, s, want api.State, sends ...api.Send) {
	t.Helper()
	got, l, e := change.Suspect(c, s)
	if e != api.OK || !same(got, want) || !sameSends(l, sends) {
		t.Fatalf("%s: %+v %+v %d, want %+v %+v", what, got, l, e, want, sends)
	}
}

// gone: the state as one that has gone to a view, which is above its own.
func gone(s api.State, view int) api.State {
	return changed(s, func(s *api.State) {
		s.Status, s.View, s.Idle = api.StatusChange, view, 0
		s.Acks, s.Marks, s.Ballots = nil, nil, nil
	})
}

func TestSuspect(t *testing.T) {
	for _, s := range []api.State{aBackup(), aChangingBackup(), aNextPrimary()} {
		want := gone(s, 7)
		if want.Last != s.Last || len(want.Log) != 3 || want.Commit != 1 {
			t.Fatal("the test's own state:", want)
		}
		expectSuspect(t, "suspects", five, s, want, toAll(5, s, calling(7))...)
		expectSuspect(t, "unguarded", unguarded(five), s, want, toAll(5, s, calling(7))...)
	}
	// Again and again, each time to the view behind.
	s := aBackup()
	for view := 7; view < 20; view++ {
		want := gone(s, view)
		expectSuspect(t, "on and on", five, s, want, toAll(5, s, calling(view))...)
		s = want
	}
}

func TestSuspectOfOthers(t *testing.T) {
	for name, s := range map[string]api.State{"primary": aPrimary(), "recovering": aRecovering()} {
		if got, l, e := change.Suspect(five, s); e != api.ErrStatus || !isZero(got) || len(l) > 0 {
			t.Error(name, got, l, e)
		}
	}
	for view := range 12 {
		for self := range 5 {
			s := api.State{Self: self, Status: api.StatusNormal, View: view, Last: view, Vector: los(0, 0, 0, 0, 0)}
			if _, l, e := change.Suspect(five, s); (view%5 == self) != (e == api.ErrStatus) || (view%5 == self) != (len(l) == 0) {
				t.Error(view, self, l, e)
			}
		}
	}
}

// at the greatest view: 1 << 32 modulo 5 is 1.
func atTheEnd(s api.State) api.State {
	return changed(s, func(s *api.State) {
		s.View = 1 << 32
		if s.Status == api.StatusNormal {
			s.Last = 1 << 32
		}
	})
}

func TestSuspectAtTheLastView(t *testing.T) {
	for _, s := range []api.State{aBackup(), aChangingBackup(), aNextPrimary()} {
		expectSuspect(t, "at its end", five, atTheEnd(s), atTheEnd(s))
		before := changed(atTheEnd(s), func(s *api.State) {
			s.View, s.Ballots = 1<<32-1, nil
			s.Last = min(s.Last, s.View)
		})
		expectSuspect(t, "ahead of it", five, before, gone(before, 1<<32), toAll(5, s, calling(1<<32))...)
	}
	for _, s := range []api.State{atTheEnd(aPrimary()), aRecovering()} {
		if _, _, e := change.Suspect(five, s); e != api.ErrStatus {
			t.Error(e)
		}
	}
}

func expectAgain(t *testing.T, what string, c api.Config, s api.State, sends ...api.Send) {
	t.Helper()
	if l, e := change.Again(c, s); e != api.OK || !sameSends(l, sends) {
		t.Fatalf("%s: %+v %d, want %+v", what, l, e, sends)
	}
}

// marked: the state with marks of those nodes.
func marked(s api.State, nodes ...int) api.State {
	return changed(s, func(s *api.State) {
		s.Marks = nil
		for _, node := range nodes {
			s.Marks = append(s.Marks, api.Mark{Node: node, Draw: s.Vector[node]})
		}
	})
}

// aChangingBackup and aNextPrimary are in view 6, whose primary is 1.
func TestAgain(t *testing.T) {
	for _, c := range []api.Config{five, unguarded(five)} {
		for _, few := range [][]int{{}, {0}, {1}, {4}} {
			s := marked(aChangingBackup(), few...)
			expectAgain(t, "too few marks", c, s, toAll(5, s, calling(6))...)
		}
		for _, enough := range [][]int{{0, 1}, {3, 4}, {0, 1, 3}, {0, 1, 3, 4}} {
			s := marked(aChangingBackup(), enough...)
			expectAgain(t, "enough marks", c, s, append(toAll(5, s, calling(6)), from(s, 1, ballotOf(s)))...)
		}
		for _, any := range [][]int{{}, {0}, {0, 2}, {0, 2, 3, 4}} {
			s := marked(aNextPrimary(), any...)
			expectAgain(t, "the primary", c, s, toAll(5, s, calling(6))...)
		}
	}
	s := atTheEnd(aChangingBackup())
	expectAgain(t, "the last view", five, s, append(toAll(5, s, calling(1<<32)), from(s, 1, ballotOf(s)))...)
}

func TestAgainOfOthers(t *testing.T) {
	for _, s := range []api.State{aPrimary(), aBackup(), aRecovering()} {
		if l, e := change.Again(five, s); e != api.ErrStatus || len(l) > 0 {
			t.Error(l, e)
		}
	}
}
