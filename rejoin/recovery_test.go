package rejoin_test

import (
	"testing"

	"amnesia/api"
)

// P12.2: Recovery. aPrimary is replica 1, normal in view 6 with five entries, two carried out; aBackup replica 2, normal in it.

// knows: the state as one that has learnt a node's draw; the acknowledgement of its earlier life is gone.
func knows(s api.State, node int, d api.Draw) api.State {
	return changed(s, func(s *api.State) {
		s.Vector[node] = d
		var acks []api.Ack
		for _, a := range s.Acks {
			if a.Node != node {
				acks = append(acks, a)
			}
		}
		s.Acks = acks
	})
}

func TestRecoveryAtThePrimary(t *testing.T) {
	s := aPrimary()
	for _, node := range []int{0, 2, 3, 4} {
		m := recovery(node)
		want := knows(s, node, m.Draw)
		expect(t, "guarded", five, s, m, want, from(want, node, answering(6, m.Draw, 2, logOf(5))))
		expect(t, "unguarded", unguarded(five), s, m, s, from(s, node, answering(6, m.Draw, 2, logOf(5))))
	}
	empty := changed(s, func(s *api.State) { s.Log, s.Commit, s.Acks = nil, 0, nil })
	m := recovery(3)
	want := knows(empty, 3, m.Draw)
	expect(t, "an empty log", five, empty, m, want, from(want, 3, answering(6, m.Draw, 0, nil)))
}

func TestRecoveryAtAnother(t *testing.T) {
	s := aBackup()
	for _, node := range []int{0, 1, 3, 4} { // 1 is the primary, which has crashed
		m := recovery(node)
		want := knows(s, node, m.Draw)
		expect(t, "guarded", five, s, m, want, from(want, node, answering(6, m.Draw, 0, nil)))
		expect(t, "unguarded", unguarded(five), s, m, s, from(s, node, answering(6, m.Draw, 0, nil)))
	}
}

// In each view, at each replica: who is its primary, and who is not.
func TestRecoveryInEachView(t *testing.T) {
	for _, view := range []int{0, 1, 2, 3, 4, 5, 9, 1<<32 - 1, 1 << 32} {
		for self := range 5 {
			s := api.State{Self: self, Status: api.StatusNormal, View: view, Last: view, Log: logOf(3), Commit: 1, Vector: los(0, 0, 0, 0, 0)}
			node := (self + 2) % 5
			m := from(knows(changed(s, func(s *api.State) { s.Self = node }), node, lo(8)), self, api.Msg{Kind: api.KindRecovery, Draw: lo(8)}).Msg
			want, answer := knows(s, node, lo(8)), answering(view, lo(8), 0, nil)
			if view%5 == self {
				answer = answering(view, lo(8), 1, logOf(3))
			}
			expect(t, "view", five, s, m, want, from(want, node, answer))
		}
	}
}

func TestRecoveryAtOneThatIsNotNormal(t *testing.T) {
	for _, s := range []api.State{aChangingBackup(), aNextPrimary(), aRecovering()} {
		for _, node := range []int{0, 3} {
			m := recovery(node)
			got, l := do(t, five, s, m)
			if got.Vector[node] != m.Draw || len(l) > 0 || got.Status != s.Status || got.View != s.View {
				t.Error(got, l)
			}
			w := modelOf(five, s, m)
			expect(t, "learnt alone", five, s, m, w.s)
			expectNothing(t, "unguarded", unguarded(five), s, m)
		}
	}
}

// The same question again is answered again; one of an earlier life is not, once a later one is known.
func TestRecoveryAgain(t *testing.T) {
	early, late := recovery(3), changedMsg(recovery(3), func(m *api.Msg) { m.Draw = lo(20); m.Vector[3] = lo(20) })
	for _, state := range []func() api.State{aPrimary, aBackup} {
		s, l := do(t, five, state(), early)
		again, more := do(t, five, s, early)
		if !same(again, s) || !sameSends(l, more) || len(l) != 1 {
			t.Error(again, more)
		}
		s, l = do(t, five, s, late)
		if s.Vector[3] != lo(20) || len(l) != 1 || l[0].Msg.Draw != lo(20) {
			t.Error(s, l)
		}
		expectNothing(t, "an earlier life's", five, s, early)
	}
}
