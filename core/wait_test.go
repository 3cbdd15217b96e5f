package core_test

import (
	"math/rand/v2"
	"testing"

	"amnesia/api"
	"amnesia/core"
)

// P9.1: Wait.

func expectWait(t *testing.T, what string, c api.Config, s, wantState api.State, want bool) api.State {
	t.Helper()
	got, end, e := core.Wait(c, s)
	if e != api.OK || end != want {
		t.Fatalf("%s: %v %d, want %v: %+v", what, end, e, want, s)
	}
	expectState(t, what, got, wantState)
	return got
}

func TestWaitExample(t *testing.T) {
	s := first(t, three, 2)
	for i := 1; i <= 6; i++ {
		s = expectWait(t, "example 3", three, s, api.State{Self: 2, Status: api.StatusNormal, Vector: make(api.Vector, 3), Idle: i % 6}, i == 6)
	}
}

// Each status, primary and backup, at every Idle: two rounds of Patience ticks.
func TestWaitOfEveryState(t *testing.T) {
	for _, patience := range []int{6, 7, 9, 99, 100} {
		c := api.Config{F: 2, Room: 6, Patience: patience}
		for name, state := range everyState() {
			s := state()
			still := name == "primary" || name == "recovering"
			if !still {
				s.Idle = 0
			}
			for tick := 1; tick <= 2*patience; tick++ {
				want := own(s)
				if !still {
					want.Idle = tick % patience
				}
				s = expectWait(t, name, c, s, want, !still && want.Idle == 0)
			}
		}
	}
}

// A primary that is changing waits as the others do; one of an earlier view too.
func TestWaitOfPrimaries(t *testing.T) {
	next := aNextPrimary()
	expectWait(t, "the next view's primary", five, next, changed(own(next), func(s *api.State) { s.Idle = 4 }), false)
	next.Idle = 8
	expectWait(t, "its last tick", five, next, changed(own(next), func(s *api.State) { s.Idle = 0 }), true)
	was := changed(aBackup(), func(s *api.State) { s.Self = 0 }) // the primary of view 5
	expectWait(t, "the last view's primary", five, was, changed(own(was), func(s *api.State) { s.Idle = 0 }), true)
	for _, view := range []int{1, 6, 11, 1 << 32} {
		p := changed(aPrimary(), func(s *api.State) { s.View, s.Last = view, view })
		expectWait(t, "a primary", five, p, p, false)
	}
}

func TestWaitByItsWords(t *testing.T) {
	r := rand.New(rand.NewPCG(9, 3))
	met := make(map[[2]bool]int)
	for range 20000 {
		c := pick(r, configs()...)
		s := someState(r, c)
		want, end := own(s), false
		still := s.Status == api.StatusRecovering || s.Status == api.StatusNormal && s.Self == s.View%(2*c.F+1)
		if !still {
			if want.Idle++; want.Idle == c.Patience {
				want.Idle, end = 0, true
			}
		}
		met[[2]bool{still, end}]++
		expectWait(t, "at random", c, s, want, end)
	}
	if met[[2]bool{true, false}] < 1000 || met[[2]bool{false, false}] < 1000 || met[[2]bool{false, true}] < 500 {
		t.Error("too few of some:", met)
	}
}
