package rejoin_test

import (
	"testing"

	"amnesia/api"
)

// P12.5: NewState. aBackup is replica 2, normal in view 6, aChangingBackup changing to it; both have three entries, one carried out. aPrimary and aNextPrimary are replica 1, the primary of view 6 and of view 11.

func TestNewStateAtOneThatRecovers(t *testing.T) {
	for _, view := range []int{0, 1, 4, 6, 1 << 32} {
		expectNothing(t, "recovering", five, aRecovering(), newState(1, view, 2, logOf(4)))
		expectNothing(t, "recovering, unguarded", unguarded(five), aRecovering(), newState(1, view, 2, logOf(4)))
	}
}

func TestNewStateAtThePrimaryOfIt(t *testing.T) {
	for _, state := range []func() api.State{aPrimary, aNextPrimary} {
		for _, view := range []int{1, 6, 11, 16, 1 << 32} {
			expectNothing(t, "the primary of it", five, state(), newState(3, view, 2, logOf(6)))
			expectNothing(t, "the primary of it, unguarded", unguarded(five), state(), newState(3, view, 2, logOf(6)))
		}
	}
	for _, view := range []int{2, 7, 12} {
		expectNothing(t, "a backup, the primary of it", five, aBackup(), newState(3, view, 2, logOf(6)))
		expectNothing(t, "changing, the primary of it", five, aChangingBackup(), newState(3, view, 2, logOf(6)))
	}
}

func TestNewStateOfAViewBelow(t *testing.T) {
	for name, state := range everyState() {
		for view := range 6 {
			expectNothing(t, name, five, state(), newState(3, view, 5, logOf(6)))
		}
	}
}

// Normal in that view: what is not longer is nothing, however much of it is committed, and whatever stands there.
func TestNewStateOfItsView(t *testing.T) {
	s := aBackup()
	for _, c := range []api.Config{five, unguarded(five)} {
		for _, node := range []int{0, 1, 3, 4} { // any of them may give it
			for end := range 4 {
				for commit := range end + 1 {
					expectNothing(t, "shorter, or as long", c, s, newState(node, 6, commit, logOf(end)))
					expectNothing(t, "shorter, or as long, another one", c, s, newState(node, 6, commit, other(end)))
				}
			}
			expect(t, "longer", c, s, newState(node, 6, 1, logOf(4)), takenOver(s, 6, 1, logOf(4)), acknowledged(s, 6, 4))
			expect(t, "longer, another one", c, s, newState(node, 6, 1, other(4)), takenOver(s, 6, 1, other(4)), acknowledged(s, 6, 4))
			expect(t, "longer, all of it committed", c, s, newState(node, 6, 6, logOf(6)), takenOver(s, 6, 6, logOf(6)))
		}
	}
}

// Changing to that view: whatever it is, it is taken over.
func TestNewStateOfTheViewThatIsCalledFor(t *testing.T) {
	s := aChangingBackup()
	for _, node := range []int{0, 1, 3, 4} {
		expect(t, "longer", five, s, newState(node, 6, 2, logOf(4)), takenOver(s, 6, 2, logOf(4)), acknowledged(s, 6, 4))
		expect(t, "as long", five, s, newState(node, 6, 2, other(3)), takenOver(s, 6, 2, other(3)), acknowledged(s, 6, 3))
		expect(t, "shorter", five, s, newState(node, 6, 1, logOf(2)), takenOver(s, 6, 1, logOf(2)), acknowledged(s, 6, 2))
		expect(t, "shorter than what is carried out", five, s, newState(node, 6, 0, nil), takenOver(s, 6, 0, nil))
	}
	expect(t, "unguarded", unguarded(five), s, newState(3, 6, 2, logOf(4)), takenOver(s, 6, 2, logOf(4)), acknowledged(s, 6, 4))
}

func TestNewStateOfAViewAbove(t *testing.T) {
	for name, state := range everyState() {
		s := state()
		for _, view := range []int{7, 8, 9, 10, 11, 12, 1<<32 - 1, 1 << 32} {
			if name == "recovering" || view%5 == s.Self {
				expectNothing(t, name, five, s, newState(3, view, 2, logOf(4)))
				continue
			}
			for _, c := range []api.Config{five, unguarded(five)} {
				expect(t, name, c, s, newState(3, view, 2, logOf(4)), takenOver(s, view, 2, logOf(4)), acknowledged(s, view, 4))
				expect(t, name+", shorter", c, s, newState(3, view, 2, logOf(2)), takenOver(s, view, 2, logOf(2)))
				expect(t, name+", empty", c, s, newState(3, view, 0, nil), takenOver(s, view, 0, nil))
			}
		}
	}
}

// The greater of the two commit numbers, at most the log's length; a log that is longer than it is acknowledged, to the primary of the view, whoever gave it.
func TestNewStateWithWhichCommit(t *testing.T) {
	for _, state := range []func() api.State{aBackup, aChangingBackup} {
		for own := range 6 {
			s := changed(state(), func(s *api.State) { s.Log, s.Commit = logOf(5), own })
			for end := range 7 {
				for commit := range end + 1 {
					want := takenOver(s, 8, min(max(own, commit), end), other(end))
					var sends []api.Send
					if end > own && end > commit {
						sends = append(sends, acknowledged(s, 8, end))
					}
					expect(t, "commit", five, s, newState(4, 8, commit, other(end)), want, sends...)
				}
			}
		}
	}
}

// The same message again does nothing.
func TestNewStateAgain(t *testing.T) {
	for _, m := range []api.Msg{newState(1, 6, 2, logOf(4)), newState(3, 8, 0, logOf(2)), newState(0, 1<<32, 0, nil)} {
		for _, state := range []func() api.State{aBackup, aChangingBackup} {
			s, _ := do(t, five, state(), m)
			if s.View != m.View || s.Status != api.StatusNormal || len(s.Log) != len(m.Log) {
				t.Fatal(s)
			}
			expectNothing(t, "again", five, s, m)
		}
	}
}

// A primary that hears of a later view is a backup then, without acknowledgements.
func TestNewStateAtAPrimary(t *testing.T) {
	s := aPrimary()
	got, l := do(t, five, s, newState(4, 7, 3, logOf(5)))
	if !same(got, takenOver(s, 7, 3, logOf(5))) || len(got.Acks) > 0 || len(l) != 1 || l[0].To != 2 {
		t.Error(got, l)
	}
}

// It goes out with what was learnt by it; of a life that is over it does nothing.
func TestNewStateLearns(t *testing.T) {
	m := changedMsg(newState(3, 6, 2, logOf(4)), func(m *api.Msg) { m.Vector[0] = lo(5) })
	learnt := changed(aBackup(), func(s *api.State) { s.Vector[0] = lo(5) })
	expect(t, "learnt", five, aBackup(), m, takenOver(learnt, 6, 2, logOf(4)), acknowledged(learnt, 6, 4))
	m = changedMsg(newState(3, 6, 2, logOf(4)), func(m *api.Msg) { m.Vector[3] = lo(8) })
	expectNothing(t, "of a life that is over", five, aBackup(), m)
	expect(t, "of a life that is over, unguarded", unguarded(five), aBackup(), m, takenOver(aBackup(), 6, 2, logOf(4)), acknowledged(aBackup(), 6, 4))
}
