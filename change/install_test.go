package change_test

import (
	"testing"

	"amnesia/api"
)

// P11.1: Install, StartView. aBackup is replica 2, normal in view 6; aChangingBackup changing to it; both have three entries, one carried out. The primary of view 6 is 1, of view 8 it is 3.

// takenOver: the state as one that has taken a view's log over.
func takenOver(s api.State, view, commit int, log []api.Entry) api.State {
	return changed(s, func(s *api.State) {
		s.Status, s.View, s.Last, s.Idle, s.Log, s.Commit = api.StatusNormal, view, view, 0, log, commit
		s.Acks, s.Marks, s.Ballots = nil, nil, nil
	})
}

func acknowledged(s api.State, view, place int) api.Send {
	return from(s, view%5, api.Msg{Kind: api.KindPrepareOK, View: view, Place: place})
}

func TestInstallOfAViewBelow(t *testing.T) {
	for name, state := range everyState() {
		for view := 1; view < 6; view++ {
			expectNothing(t, name, five, state(), install(view, 5, logOf(5)))
		}
	}
}

func TestInstallOfAViewThatHasBegun(t *testing.T) {
	for commit := range 6 {
		expectNothing(t, "backup", five, aBackup(), install(6, commit, logOf(5)))
		expectNothing(t, "primary", five, aPrimary(), install(6, commit, logOf(5)))
	}
}

func TestInstallOfTheViewThatIsCalledFor(t *testing.T) {
	s := aChangingBackup()
	for _, c := range []api.Config{five, unguarded(five)} {
		expect(t, "longer", c, s, install(6, 2, logOf(4)), takenOver(s, 6, 2, logOf(4)), acknowledged(s, 6, 4))
		expect(t, "all is committed", c, s, install(6, 4, logOf(4)), takenOver(s, 6, 4, logOf(4)))
		expect(t, "an empty log", c, s, install(6, 0, nil), takenOver(s, 6, 0, nil))
	}
}

func TestInstallOfAViewAbove(t *testing.T) {
	for name, state := range everyState() {
		if name == "recovering" {
			continue
		}
		s := state()
		for _, view := range []int{7, 8, 9, 10, 11, 12, 1<<32 - 1, 1 << 32} {
			if view%5 == s.Self { // by itself: not admitted
				expectNothing(t, name, five, s, install(view, 2, logOf(4)))
				expectNothing(t, name, unguarded(five), s, install(view, 2, logOf(4)))
				continue
			}
			expect(t, name, five, s, install(view, 2, logOf(4)), takenOver(s, view, 2, logOf(4)), acknowledged(s, view, 4))
			expect(t, name, five, s, install(view, 4, logOf(4)), takenOver(s, view, 4, logOf(4)))
		}
	}
}

// The greater of the two commit numbers, at most the log's length; a log that is longer than it is acknowledged.
func TestInstallWithWhichCommit(t *testing.T) {
	for _, state := range []func() api.State{aBackup, aChangingBackup} {
		for own := range 6 {
			s := changed(state(), func(s *api.State) { s.Log, s.Commit = logOf(5), own })
			for end := range 7 {
				for commit := range end + 1 {
					want := takenOver(s, 8, min(max(own, commit), end), other(end))
					var sends []api.Send
					if end > own && end > commit {
						sends = append(sends, acknowledged(s, 8, end))
					}
					expect(t, "commit", five, s, install(8, commit, other(end)), want, sends...)
				}
			}
		}
	}
}

// What has begun has begun: the same message again does nothing, neither does another log of that view.
func TestInstallTwice(t *testing.T) {
	s, _ := do(t, five, aChangingBackup(), install(6, 2, logOf(4)))
	expectNothing(t, "again", five, s, install(6, 2, logOf(4)))
	expectNothing(t, "another log", five, s, install(6, 5, logOf(5)))
	expectNothing(t, "a call that comes late", five, s, start(0, 6))
}

// A primary that hears of a later view's start is a backup then, without acknowledgements.
func TestInstallAtAPrimary(t *testing.T) {
	s := aPrimary()
	got, l := do(t, five, s, install(7, 3, logOf(5)))
	if !same(got, takenOver(s, 7, 3, logOf(5))) || len(got.Acks) > 0 || len(l) != 1 || l[0].To != 2 {
		t.Error(got, l)
	}
}
