package normal_test

import (
	"testing"

	"amnesia/api"
)

// P10.2: Prepare. aBackup is normal in view 6, has three entries, of which one is carried out, and an Idle of 8.

var next = api.Entry{Client: 9, Number: 3, Op: write(3, "n")}

// behindPrepare: the backup's state, with its patience new, and that commit number.
func behindPrepare(commit int, entries ...api.Entry) api.State {
	return changed(aBackup(), func(s *api.State) {
		s.Idle, s.Commit, s.Log = 0, commit, append(s.Log, entries...)
	})
}

func TestPrepareOfTheNextPlace(t *testing.T) {
	ok := from(aBackup(), 1, api.Msg{Kind: api.KindPrepareOK, View: 6, Place: 4})
	for commit, want := range []int{1, 1, 2, 3, 4, 4, 4} { // below its own, at it, between, at the log's end before and behind, above
		expect(t, "next", five, aBackup(), prepare(6, 4, commit, next), behindPrepare(want, next), ok)
	}
}

func TestPrepareOfAPlaceThatItHas(t *testing.T) {
	ok := from(aBackup(), 1, api.Msg{Kind: api.KindPrepareOK, View: 6, Place: 3})
	for place := 1; place <= 3; place++ {
		for _, e := range []api.Entry{logOf(3)[place-1], next, logOf(1)[0]} { // the log stays, whatever the entry is
			for commit, want := range []int{1, 1, 2, 3, 3, 3, 3} {
				expect(t, "again", five, aBackup(), prepare(6, place, commit, e), behindPrepare(want), ok)
			}
		}
	}
}

func TestPrepareBehindAGap(t *testing.T) {
	for _, place := range []int{5, 6} {
		for commit, want := range []int{1, 1, 2, 3, 3, 3, 3} { // what it has is carried out, though
			expect(t, "gap", five, aBackup(), prepare(6, place, commit, next), behindPrepare(want), from(aBackup(), 1, getState(6)))
		}
	}
	empty := changed(aBackup(), func(s *api.State) { s.Log, s.Commit = nil, 0 })
	behind := changed(empty, func(s *api.State) { s.Idle = 0 })
	expect(t, "all is missing", five, empty, prepare(6, 2, 6, next), behind, from(empty, 1, getState(6)))
	behind.Log, behind.Commit = []api.Entry{next}, 1
	expect(t, "the first", five, empty, prepare(6, 1, 6, next), behind, from(empty, 1, api.Msg{Kind: api.KindPrepareOK, View: 6, Place: 1}))
}

// An entry that may not stand behind the log: only the patience begins anew.
func TestPrepareThatAppendRefuses(t *testing.T) {
	for _, e := range []api.Entry{
		{Client: 0, Number: 1, Op: write(7, "a")}, // it stands there
		{Client: 10, Number: 3, Op: count},        // likewise, as another operation
		{Client: 10, Number: 1, Op: count},        // an earlier number
	} {
		for commit := range 7 {
			expect(t, "refused", five, aBackup(), prepare(6, 4, commit, e), behindPrepare(1))
		}
	}
}

// A full log has no next place.
func TestPrepareToAFullLog(t *testing.T) {
	c := roomOf(five, 3)
	ok := from(aBackup(), 1, api.Msg{Kind: api.KindPrepareOK, View: 6, Place: 3})
	expect(t, "full", c, aBackup(), prepare(6, 3, 3, next), behindPrepare(3), ok)
	c.Room = 4
	expect(t, "the last place", c, aBackup(), prepare(6, 4, 4, next), behindPrepare(4, next), from(aBackup(), 1, api.Msg{Kind: api.KindPrepareOK, View: 6, Place: 4}))
}

// An earlier view's changes nothing, a later one's is asked for; whether the replica is normal or changing.
func TestPrepareOfAnotherView(t *testing.T) {
	for name, state := range map[string]func() api.State{"backup": aBackup, "changing backup": aChangingBackup, "primary": aPrimary, "next primary": aNextPrimary} {
		s := state()
		for _, place := range []int{1, 3, 4, 5, 6} {
			for _, view := range []int{0, 3, 4, 5} {
				expectNothing(t, name+", below", five, s, prepare(view, place, 6, next))
			}
			for _, view := range []int{7, 8, 9, 10, 11, 1<<32 - 1, 1 << 32} {
				if view%5 == s.Self { // its own view
					continue
				}
				expect(t, name+", above", five, s, prepare(view, place, 6, next), s, from(s, view%5, getState(view)))
			}
		}
	}
}

func TestPrepareToAChangingBackup(t *testing.T) {
	s := aChangingBackup()
	for _, place := range []int{1, 3, 4, 5} {
		for commit := range 7 {
			expect(t, "changing", five, s, prepare(6, place, commit, next), s, from(s, 1, getState(6)))
		}
	}
}

// A primary of the view has no other primary to hear from.
func TestPrepareByItself(t *testing.T) {
	for _, c := range []api.Config{five, unguarded(five)} {
		for _, s := range []api.State{aPrimary(), aNextPrimary()} {
			expectNothing(t, "by itself", c, s, prepare(6, 4, 6, next))
			expectNothing(t, "by itself, of a later view", c, s, prepare(11, 4, 6, next))
		}
	}
}

// The patience begins anew at every entry of one's own view.
func TestPrepareEndsTheWait(t *testing.T) {
	for idle := range five.Patience {
		s := changed(aBackup(), func(s *api.State) { s.Idle = idle })
		got, _ := do(t, five, s, prepare(6, 3, 0, next))
		if got.Idle != 0 {
			t.Error(idle, got)
		}
		if got, _ = do(t, five, s, prepare(5, 3, 0, next)); got.Idle != idle {
			t.Error("an earlier view:", idle, got)
		}
		if got, _ = do(t, five, s, prepare(8, 3, 0, next)); got.Idle != idle {
			t.Error("a later view:", idle, got)
		}
	}
}
