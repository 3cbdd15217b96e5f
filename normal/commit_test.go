package normal_test

import (
	"testing"

	"amnesia/api"
)

// P10.4: Commit. aBackup is normal in view 6, has three entries, of which one is carried out, and an Idle of 8.

func TestCommitWithinTheLog(t *testing.T) {
	for n, want := range []int{1, 1, 2, 3} { // below its own, at it, between, at the log's end
		expect(t, "within", five, aBackup(), commit(6, n), behindPrepare(want))
	}
}

func TestCommitBeyondTheLog(t *testing.T) {
	for n := 4; n <= 6; n++ {
		expect(t, "beyond", five, aBackup(), commit(6, n), behindPrepare(3), from(aBackup(), 1, getState(6)))
		done := changed(aBackup(), func(s *api.State) { s.Commit = 3 })
		expect(t, "beyond, all is carried out", five, done, commit(6, n), behindPrepare(3), from(done, 1, getState(6)))
	}
	empty := changed(aBackup(), func(s *api.State) { s.Log, s.Commit = nil, 0 })
	behind := changed(empty, func(s *api.State) { s.Idle = 0 })
	expect(t, "an empty log", five, empty, commit(6, 0), behind)
	expect(t, "an empty log, beyond", five, empty, commit(6, 1), behind, from(empty, 1, getState(6)))
}

func TestCommitOfAnotherView(t *testing.T) {
	for name, state := range map[string]func() api.State{"backup": aBackup, "changing backup": aChangingBackup, "primary": aPrimary, "next primary": aNextPrimary} {
		s := state()
		for n := range 7 {
			for _, view := range []int{0, 3, 4, 5} {
				expectNothing(t, name+", below", five, s, commit(view, n))
			}
			for _, view := range []int{7, 8, 9, 10, 11, 1<<32 - 1, 1 << 32} {
				if view%5 == s.Self { // its own view
					continue
				}
				expect(t, name+", above", five, s, commit(view, n), s, from(s, view%5, getState(view)))
			}
		}
	}
}

func TestCommitToAChangingBackup(t *testing.T) {
	s := aChangingBackup()
	for n := range 7 {
		expect(t, "changing", five, s, commit(6, n), s, from(s, 1, getState(6)))
	}
}

func TestCommitByItself(t *testing.T) {
	for _, c := range []api.Config{five, unguarded(five)} {
		for _, s := range []api.State{aPrimary(), aNextPrimary()} {
			expectNothing(t, "by itself", c, s, commit(6, 6))
			expectNothing(t, "by itself, of a later view", c, s, commit(11, 6))
		}
	}
}

// The patience begins anew whenever the primary of one's own view is heard, whatever it tells.
func TestCommitEndsTheWait(t *testing.T) {
	for idle := range five.Patience {
		s := changed(aBackup(), func(s *api.State) { s.Idle = idle })
		for n := range 7 {
			if got, _ := do(t, five, s, commit(6, n)); got.Idle != 0 {
				t.Error(idle, got)
			}
			if got, _ := do(t, five, s, commit(5, n)); got.Idle != idle {
				t.Error("an earlier view:", idle, got)
			}
			if got, _ := do(t, five, s, commit(8, n)); got.Idle != idle {
				t.Error("a later view:", idle, got)
			}
		}
	}
}
