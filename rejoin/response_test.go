package rejoin_test

import (
	"slices"
	"testing"

	"amnesia/api"
)

// P12.3: Response, RecoveryResponse. aRecovering is replica 4 with the draw 2; it has answers of 0 (view 3), 1 (view 6, its primary, two entries, one carried out) and 3 (view 7); F is 2, so three answers are enough, but view 7's primary is 2.

// withAnswers: the state with these answers, each with the draw that its vector has.
func withAnswers(s api.State, l ...api.Answer) api.State {
	return changed(s, func(s *api.State) {
		s.Answers = nil
		for _, a := range l {
			a.Draw = s.Vector[a.Node]
			s.Answers = append(s.Answers, a)
		}
	})
}

func asked() api.State { return withAnswers(aRecovering()) }

func TestResponseAtOneThatDoesNotRecover(t *testing.T) {
	for name, state := range everyState() {
		if name == "recovering" {
			continue
		}
		s := state()
		for _, node := range []int{0, 3, 4} {
			m := changedMsg(response(node, 5+node, 2, logOf(4)), func(m *api.Msg) { m.Draw = s.Vector[s.Self] })
			if isZero(m.Draw) {
				m.Draw = lo(1)
			}
			expectNothing(t, name, five, s, m)
			expectNothing(t, name, unguarded(five), s, m)
		}
	}
}

func TestResponseToAnotherDraw(t *testing.T) {
	for _, d := range []api.Draw{lo(1), lo(3), {Hi: 2}, {Hi: 1, Lo: 2}} {
		m := changedMsg(response(2, 7, 2, logOf(4)), func(m *api.Msg) { m.Draw = d })
		expectNothing(t, "another draw", five, aRecovering(), m)
		expectNothing(t, "another draw, unguarded", unguarded(five), aRecovering(), m)
		m.Vector[1] = lo(5)
		want := changed(aRecovering(), func(s *api.State) { s.Vector[1] = lo(5) })
		want = withAnswers(want, api.Answer{Node: 0, View: 3}, api.Answer{Node: 3, View: 7})
		expect(t, "another draw, learnt", five, aRecovering(), m, want)
	}
	expect(t, "its own draw", five, aRecovering(), response(2, 7, 2, logOf(4)), takenOver(aRecovering(), 7, 2, logOf(4)), acknowledged(aRecovering(), 7, 4))
}

func TestResponseIsPut(t *testing.T) {
	s := asked()
	for node := range 4 {
		expect(t, "the first, of a backup", five, s, response(node, 4, 0, nil), withAnswers(s, api.Answer{Node: node, View: 4}))
		expect(t, "the first, of a primary", five, s, response(node, 5+node, 1, logOf(3)), withAnswers(s, api.Answer{Node: node, View: 5 + node, Commit: 1, Log: logOf(3)}))
		expect(t, "the first, of the greatest view", five, s, response(node, 1<<32, 0, nil), withAnswers(s, api.Answer{Node: node, View: 1 << 32}))
	}
	s = withAnswers(s, api.Answer{Node: 1, View: 6, Commit: 1, Log: logOf(2)})
	for _, less := range []api.Msg{response(1, 6, 1, logOf(2)), response(1, 6, 0, logOf(2)), response(1, 6, 1, logOf(1)), response(1, 5, 0, nil), response(1, 1, 5, logOf(5))} {
		expectNothing(t, "not greater", five, s, less)
	}
	expect(t, "carried out more", five, s, response(1, 6, 2, logOf(2)), withAnswers(s, api.Answer{Node: 1, View: 6, Commit: 2, Log: logOf(2)}))
	expect(t, "longer", five, s, response(1, 6, 0, logOf(3)), withAnswers(s, api.Answer{Node: 1, View: 6, Log: logOf(3)}))
	expect(t, "later", five, s, response(1, 7, 0, nil), withAnswers(s, api.Answer{Node: 1, View: 7}))
	expect(t, "of another, ahead", five, s, response(0, 7, 0, nil), withAnswers(s, api.Answer{Node: 0, View: 7}, s.Answers[0]))
	expect(t, "of another, behind", five, s, response(3, 7, 0, nil), withAnswers(s, s.Answers[0], api.Answer{Node: 3, View: 7}))
}

// F + 1 of them, not F: in groups of three, five and seven, of view 0, the primary's as the first, in between and as the last.
func TestResponseCounts(t *testing.T) {
	for _, c := range []api.Config{three, five, seven, unguarded(three), unguarded(seven)} {
		n := 2*c.F + 1
		for last := 1; last <= c.F+1; last++ { // when the primary's comes
			s, l := again(t, c, n-1, lo(5))
			if len(l) != n-1 {
				t.Fatal(l)
			}
			var nodes []int
			for node := range c.F + 1 {
				nodes = append(nodes, node)
			}
			nodes = slices.Insert(nodes[1:], last-1, 0)
			for i, node := range nodes {
				m := from(first(t, c, node), n-1, answering(0, lo(5), 0, nil)).Msg
				if node == 0 {
					m.Log, m.Commit = logOf(2), 1
				}
				var sends []api.Send
				want := changed(s, func(s *api.State) {
					s.Answers = modelOf(c, *s, m).s.Answers
				})
				if i == c.F {
					want = takenOver(s, 0, 1, logOf(2))
					sends = append(sends, from(s, 0, api.Msg{Kind: api.KindPrepareOK, Place: 2}))
				} else if len(want.Answers) != i+1 {
					t.Fatal(want)
				}
				expect(t, "counts", c, s, m, want, sends...)
				s, _ = do(t, c, s, m)
				if i < c.F {
					expectNothing(t, "one is not two", c, s, m)
				}
			}
		}
	}
}

// Of the answers the greatest view's primary must be one; others' logs, longer ones too, are nothing to it.
func TestResponseOfWhichPrimary(t *testing.T) {
	zero, one, three := api.Answer{Node: 0, View: 3}, api.Answer{Node: 1, View: 6, Commit: 1, Log: logOf(2)}, api.Answer{Node: 3, View: 7}
	if !same(aRecovering(), withAnswers(asked(), zero, one, three)) {
		t.Fatal("the test's own state is another")
	}
	s := aRecovering()
	// One more of a view that has no primary among them: on it waits, with four answers.
	for _, view := range []int{0, 6, 8, 9, 11, 1 << 32} {
		expect(t, "the primary is missing", five, s, response(2, view, 0, nil), withAnswers(s, zero, one, api.Answer{Node: 2, View: view}, three))
	}
	expect(t, "a primary of an earlier view", five, s, response(2, 2, 5, logOf(5)), withAnswers(s, zero, one, api.Answer{Node: 2, View: 2, Commit: 5, Log: logOf(5)}, three))
	expect(t, "its own view", five, s, response(2, 4, 0, nil), withAnswers(s, zero, one, api.Answer{Node: 2, View: 4}, three)) // it is view 4's and 9's primary itself
	// With it: that one's log.
	for _, view := range []int{7, 12, 1<<32 + 1 - 5} {
		for _, log := range [][]api.Entry{nil, other(1), other(6)} {
			var sends []api.Send
			if len(log) > 0 {
				sends = append(sends, acknowledged(s, view, len(log)))
			}
			expect(t, "the primary's", five, s, response(2, view, 0, log), takenOver(s, view, 0, log), sends...)
		}
	}
	expect(t, "another's, which is greater now", five, s, response(3, 8, 2, other(3)), takenOver(s, 8, 2, other(3)), acknowledged(s, 8, 3))
	// The one that completes them need not be the primary, nor be of its view.
	s = withAnswers(s, one, three)
	expect(t, "of an earlier view", five, withAnswers(s, zero, one), response(3, 5, 0, nil), takenOver(s, 6, 1, logOf(2)), acknowledged(s, 6, 2))
	expect(t, "of the same view", five, withAnswers(s, zero, one), response(3, 6, 0, nil), takenOver(s, 6, 1, logOf(2)), acknowledged(s, 6, 2))
	expect(t, "of a later view", five, withAnswers(s, zero, one), response(3, 7, 0, nil), withAnswers(s, zero, one, three))
}

// A log that is longer than the commit number is acknowledged, any other is not.
func TestResponseAcknowledges(t *testing.T) {
	s := aRecovering()
	for end := range 7 {
		for commit := range end + 1 {
			var sends []api.Send
			if end > commit {
				sends = append(sends, acknowledged(s, 7, end))
			}
			for _, c := range []api.Config{five, unguarded(five)} {
				expect(t, "acknowledges", c, s, response(2, 7, commit, other(end)), takenOver(s, 7, commit, other(end)), sends...)
			}
		}
	}
}

// Answers of lives that are over are not counted: neither those that it has, nor one that comes.
func TestResponseOfLivesThatAreOver(t *testing.T) {
	zero, one := api.Answer{Node: 0, View: 3}, api.Answer{Node: 1, View: 6, Commit: 1, Log: logOf(2)}
	s := withAnswers(aRecovering(), zero, one)
	m := changedMsg(response(3, 6, 0, nil), func(m *api.Msg) { m.Vector[0] = lo(5) }) // 0 has begun again
	learnt := changed(s, func(s *api.State) { s.Vector[0] = lo(5) })
	expect(t, "another's", five, s, m, withAnswers(learnt, one, api.Answer{Node: 3, View: 6}))
	expect(t, "another's, unguarded", unguarded(five), s, m, takenOver(s, 6, 1, logOf(2)), acknowledged(s, 6, 2))

	m = changedMsg(response(1, 6, 0, logOf(1)), func(m *api.Msg) { m.Vector[1] = lo(2) }) // less, but of a later life
	learnt = changed(s, func(s *api.State) { s.Vector[1] = lo(2) })
	expect(t, "a later life's, which is less", five, s, m, withAnswers(learnt, zero, api.Answer{Node: 1, View: 6, Log: logOf(1)}))

	m = changedMsg(response(3, 6, 0, nil), func(m *api.Msg) { m.Vector[3] = lo(8) })
	expectNothing(t, "an earlier life's", five, s, m)
	expect(t, "an earlier life's, unguarded", unguarded(five), s, m, takenOver(s, 6, 1, logOf(2)), acknowledged(s, 6, 2))
	// An answer that knows of a later life of the asker itself is none to this one.
	m = changedMsg(response(3, 6, 0, nil), func(m *api.Msg) { m.Vector[4] = lo(3) })
	expectNothing(t, "to an earlier life", five, s, m)
}

// What has returned has returned: the same answer again, or another one, does nothing.
func TestResponseAgain(t *testing.T) {
	s, _ := do(t, five, aRecovering(), response(2, 7, 2, logOf(4)))
	for _, m := range []api.Msg{response(2, 7, 2, logOf(4)), response(2, 7, 4, logOf(6)), response(2, 12, 4, logOf(6)), response(0, 7, 0, nil)} {
		expectNothing(t, "again", five, s, m)
	}
}
