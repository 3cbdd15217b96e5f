package rejoin_test

import (
	"testing"

	"amnesia/api"
)

// P12.4: GetState. aPrimary and aBackup are normal in view 6.

func TestGetStateOfItsView(t *testing.T) {
	for _, c := range []api.Config{five, unguarded(five)} {
		for _, node := range []int{0, 2, 3, 4} {
			expect(t, "primary", c, aPrimary(), getState(node, 6), aPrimary(), from(aPrimary(), node, api.Msg{Kind: api.KindNewState, View: 6, Commit: 2, Log: logOf(5)}))
		}
		for _, node := range []int{0, 1, 3, 4} {
			expect(t, "backup", c, aBackup(), getState(node, 6), aBackup(), from(aBackup(), node, api.Msg{Kind: api.KindNewState, View: 6, Commit: 1, Log: logOf(3)}))
		}
	}
	s := first(t, three, 1)
	expect(t, "the first view", three, s, from(first(t, three, 2), 1, api.Msg{Kind: api.KindGetState}).Msg, s, from(s, 2, all(s)))
	s = changed(aBackup(), func(s *api.State) { s.View, s.Last = 1<<32, 1<<32 })
	expect(t, "the last view", five, s, getState(3, 1<<32), s, from(s, 3, all(s)))
}

func TestGetStateOfAnotherView(t *testing.T) {
	for _, state := range []func() api.State{aPrimary, aBackup} {
		for _, view := range []int{0, 1, 5, 7, 11, 1 << 32} {
			expectNothing(t, "another view", five, state(), getState(3, view))
			expectNothing(t, "another view, unguarded", unguarded(five), state(), getState(3, view))
		}
	}
}

func TestGetStateAtOneThatIsNotNormal(t *testing.T) {
	for _, state := range []func() api.State{aChangingBackup, aNextPrimary, aRecovering} {
		for _, view := range []int{0, 4, 5, 6, 7, 1 << 32} { // 4: in which it was last normal; 0: which one that recovers has
			expectNothing(t, "not normal", five, state(), getState(3, view))
			expectNothing(t, "not normal, unguarded", unguarded(five), state(), getState(3, view))
		}
	}
}

// What it has learnt by the question goes out with the answer; asked again, it answers again.
func TestGetStateLearns(t *testing.T) {
	m := changedMsg(getState(3, 6), func(m *api.Msg) { m.Vector[3], m.Vector[0] = lo(10), lo(5) })
	want := changed(aPrimary(), func(s *api.State) {
		s.Vector[3], s.Vector[0], s.Acks = lo(10), lo(5), []api.Ack{{Node: 2, Place: 4}}
	})
	expect(t, "learnt", five, aPrimary(), m, want, from(want, 3, all(want)))
	expect(t, "again", five, want, m, want, from(want, 3, all(want)))
	expectNothing(t, "an earlier life's", five, want, getState(3, 6))
}
