package replica_test

import (
	"testing"

	"amnesia/api"
)

// P13.1: Tick, of each who may tick.

func TestTickOfAPrimary(t *testing.T) {
	s := aPrimary() // 0 has acknowledged one, 2 four; two are committed
	out := toAll(5, s, api.Msg{Kind: api.KindCommit, View: 6, Commit: 2})
	for _, missing := range [][2]int{{0, 3}, {0, 4}, {0, 5}, {2, 5}, {3, 3}, {3, 4}, {3, 5}, {4, 3}, {4, 4}, {4, 5}} {
		to, place := missing[0], missing[1]
		out = append(out, from(s, to, api.Msg{Kind: api.KindPrepare, View: 6, Place: place, Commit: 2, Entry: s.Log[place-1]}))
	}
	for _, c := range []api.Config{five, unguarded(five)} {
		expectTicked(t, "primary", c, s, s, out...)
	}
	r := first(t, three, 0)
	for range 50 { // it has no patience to lose
		l := tick(t, r)
		want := api.State{Status: api.StatusNormal, Vector: los(0, 0, 0)}
		if !samePackets(l, packets(t, three, 0, toAll(3, want, api.Msg{Kind: api.KindCommit})...)) {
			t.Fatal(decoded(t, three, l))
		}
		expectLooks(t, "first", r, want)
	}
}

func idle(s api.State, ticks int) api.State {
	s.Idle = ticks
	return s
}

// calling: the state as one that has gone to a view, and what it sends.
func calling(n int, s api.State, view int) (api.State, []api.Send) {
	s.Status, s.View, s.Idle, s.Marks, s.Ballots = api.StatusChange, view, 0, nil, nil
	return s, toAll(n, s, api.Msg{Kind: api.KindStartViewChange, View: view})
}

func TestTickOfABackup(t *testing.T) {
	for ticks := range 8 {
		expectTicked(t, "patient", five, idle(aBackup(), ticks), idle(aBackup(), ticks+1))
	}
	want, out := calling(5, aBackup(), 7)
	expectTicked(t, "at its end", five, idle(aBackup(), 8), want, out...)
	expectTicked(t, "at its end, unguarded", unguarded(five), idle(aBackup(), 8), want, out...)

	s := changed(aBackup(), func(s *api.State) { s.View, s.Last = 1<<32, 1<<32 }) // its primary is 1
	expectTicked(t, "in the last view", five, idle(s, 8), idle(s, 0))
}

func TestTickOfOneThatIsChanging(t *testing.T) {
	s := aChangingBackup() // it has three marks, and F is 2
	call := toAll(5, s, api.Msg{Kind: api.KindStartViewChange, View: 6})
	ballot := from(s, 1, api.Msg{Kind: api.KindDoViewChange, View: 6, Last: 4, Commit: 1, Log: logOf(3)})
	for ticks := range 8 {
		expectTicked(t, "patient", five, idle(s, ticks), idle(s, ticks+1), append(call[:4:4], ballot)...)
		few := changed(s, func(s *api.State) { s.Marks = s.Marks[:1] })
		expectTicked(t, "patient, with few marks", five, idle(few, ticks), idle(few, ticks+1), call...)
		next := aNextPrimary() // it sends itself no ballot
		expectTicked(t, "patient, the primary to be", five, idle(next, ticks), idle(next, ticks+1), toAll(5, next, api.Msg{Kind: api.KindStartViewChange, View: 6})...)
	}
	for name, state := range map[string]func() api.State{"backup": aChangingBackup, "primary to be": aNextPrimary} {
		want, out := calling(5, state(), 7)
		expectTicked(t, name+" at its end", five, idle(state(), 8), want, out...)
	}
	last := changed(s, func(s *api.State) { s.View = 1 << 32 })
	expectTicked(t, "to the last view, at its end", five, idle(last, 8), idle(last, 0))
}

func TestTickOfOneThatRecovers(t *testing.T) {
	for name, state := range map[string]func() api.State{"backup": aRecovering, "primary": aRecoveringPrimary} {
		s := state()
		out := toAll(5, s, api.Msg{Kind: api.KindRecovery, Draw: s.Vector[s.Self]})
		expectTicked(t, name, five, s, s, out...)
		expectTicked(t, name+", unguarded", unguarded(five), s, s, out...)
	}
}

// From the beginning: a backup that hears nothing calls for a view each time its patience is at its end, and once more at each tick between.
func TestPatienceAgainAndAgain(t *testing.T) {
	r := first(t, three, 2)
	want := api.State{Self: 2, Status: api.StatusNormal, Vector: los(0, 0, 0)}
	for at := 1; at <= 40; at++ {
		l := tick(t, r)
		want.Idle = at % 6
		var out []api.Send
		if at%6 == 0 {
			want.Status, want.View = api.StatusChange, want.View+1
		}
		if want.Status == api.StatusChange {
			out = toAll(3, want, api.Msg{Kind: api.KindStartViewChange, View: want.View})
		}
		if !samePackets(l, packets(t, three, 2, out...)) {
			t.Fatal(at, decoded(t, three, l))
		}
		expectLooks(t, "waiting", r, want)
	}
}

// A word from the primary begins the patience anew.
func TestPatienceBeginsAnew(t *testing.T) {
	r := first(t, three, 2)
	for range 10 {
		for range 5 {
			if l := tick(t, r); len(l) > 0 {
				t.Fatal(decoded(t, three, l))
			}
		}
		handle(t, r, three, api.Msg{Kind: api.KindCommit, Vector: los(0, 0, 0)})
	}
	if s := r.State(); s.View != 0 || s.Status != api.StatusNormal {
		t.Error(s)
	}
}
