package change_test

import (
	"testing"

	"amnesia/api"
)

// P11.1: Vote, DoViewChange. aNextPrimary is replica 1, the primary of view 6, changing to it; last normal in view 4 with three entries, one carried out; it has a ballot of replica 3, of Last 5, with two entries, one carried out; F is 2.

// withBallots: the state with these ballots, each with the draw that its vector has.
func withBallots(s api.State, l ...api.Ballot) api.State {
	return changed(s, func(s *api.State) {
		s.Ballots = nil
		for _, b := range l {
			b.Draw = s.Vector[b.Node]
			s.Ballots = append(s.Ballots, b)
		}
	})
}

// led: the state as one that has begun its view.
func led(s api.State, commit int, log []api.Entry) api.State {
	return changed(s, func(s *api.State) {
		s.Status, s.Last, s.Idle, s.Log, s.Commit = api.StatusNormal, s.View, 0, log, commit
		s.Acks, s.Marks, s.Ballots = nil, nil, nil
	})
}

// repliesOf: to logOf's clients, of the places above from up to to.
func repliesOf(s api.State, from1, to int) []api.Send {
	results := []api.Result{
		{Code: api.ResWritten, Slot: 7, Value: "a"}, {Code: api.ResTaken, Slot: 7, Value: "a"}, {Code: api.ResWritten, Slot: 8, Value: "c"},
		{Code: api.ResCount, Slot: 2}, {Code: api.ResFound, Slot: 7, Value: "a"}, {Code: api.ResTaken, Slot: 7, Value: "a"},
	}
	var l []api.Send
	for i := from1; i < to; i++ {
		client := i * 5 % 16
		l = append(l, from(s, 7+client, api.Msg{Kind: api.KindReply, View: s.View, Place: i + 1, Entry: api.Entry{Client: client, Number: i + 1}, Result: results[i]}))
	}
	return l
}

// expectLead: it leads with that log and commit number, and replies to what was not carried out before.
func expectLead(t *testing.T, what string, c api.Config, s api.State, m api.Msg, commit int, log []api.Entry) {
	t.Helper()
	want := led(s, commit, log)
	sends := toAll(2*c.F+1, want, starting(want.View, commit, log))
	expect(t, what, c, s, m, want, append(sends, repliesOf(want, s.Commit, commit)...)...)
}

// other: a log of so many entries that has none of logOf's.
func other(n int) []api.Entry {
	var l []api.Entry
	for i := range n {
		l = append(l, api.Entry{Client: 15, Number: 100 + i, Op: count})
	}
	return l
}

func TestVoteOfAViewBelow(t *testing.T) {
	for name, state := range everyState() {
		for view := 1; view < 6; view++ {
			expectNothing(t, name, five, state(), vote(3, view, view-1, 2, logOf(5)))
		}
	}
}

func TestVoteOfAViewThatHasBegun(t *testing.T) {
	for node := range 5 {
		expectNothing(t, "backup", five, aBackup(), vote(node, 6, 5, 2, logOf(5)))
		expectNothing(t, "primary", five, aPrimary(), vote(node, 6, 5, 2, logOf(5)))
	}
}

func TestVoteAtAnother(t *testing.T) {
	for _, node := range []int{0, 1, 3, 4} {
		expectNothing(t, "changing, not the primary", five, aChangingBackup(), vote(node, 6, 5, 2, logOf(5)))
	}
}

func TestVoteIsPut(t *testing.T) {
	s := withBallots(aNextPrimary())
	for _, node := range []int{0, 2, 3, 4} {
		expect(t, "the first", five, s, vote(node, 6, 3, 2, logOf(4)), withBallots(s, api.Ballot{Node: node, Last: 3, Commit: 2, Log: logOf(4)}))
	}
	expect(t, "an empty one", five, s, vote(0, 6, 0, 0, nil), withBallots(s, api.Ballot{Node: 0}))
	// The same replica's once more: the greater stays, and one is not two.
	s = aNextPrimary()
	for _, less := range []api.Msg{vote(3, 6, 5, 1, logOf(2)), vote(3, 6, 5, 0, logOf(2)), vote(3, 6, 5, 1, logOf(1)), vote(3, 6, 4, 5, logOf(5))} {
		expectNothing(t, "not greater", five, s, less)
	}
	expect(t, "carried out more", five, s, vote(3, 6, 5, 2, logOf(2)), withBallots(s, api.Ballot{Node: 3, Last: 5, Commit: 2, Log: logOf(2)}))
	expect(t, "longer", five, s, vote(3, 6, 5, 0, logOf(3)), withBallots(s, api.Ballot{Node: 3, Last: 5, Log: logOf(3)}))
	s = withBallots(s, api.Ballot{Node: 3, Last: 3, Commit: 1, Log: logOf(2)})
	expect(t, "later", five, s, vote(3, 6, 4, 0, nil), withBallots(s, api.Ballot{Node: 3, Last: 4}))
}

// Of a group of seven, at the primary of view 7: the third ballot is the last.
func TestVoteCounts(t *testing.T) {
	s := changed(first(t, seven, 0), func(s *api.State) {
		s.Status, s.View, s.Last, s.Log, s.Commit = api.StatusChange, 7, 6, logOf(2), 1
	})
	m := func(node int) api.Msg {
		return from(first(t, seven, node), 0, api.Msg{Kind: api.KindDoViewChange, View: 7, Last: 6, Commit: 1, Log: logOf(2)}).Msg
	}
	b := func(node int) api.Ballot { return api.Ballot{Node: node, Last: 6, Commit: 1, Log: logOf(2)} }
	expect(t, "one", seven, s, m(4), withBallots(s, b(4)))
	s = withBallots(s, b(4))
	expectNothing(t, "one again", seven, s, m(4))
	expect(t, "two", seven, s, m(6), withBallots(s, b(4), b(6)))
	expect(t, "two, ahead", seven, s, m(1), withBallots(s, b(1), b(4)))
	s = withBallots(s, b(4), b(6))
	expectNothing(t, "two again", seven, s, m(6))
	for _, node := range []int{1, 2, 3, 5} {
		expectLead(t, "three", seven, s, m(node), 1, logOf(2))
	}
}

// The latest Last, then the longest, its own among them. Ballots: that of replica 3, which it has, and that of replica 4, which comes.
func TestVoteChoice(t *testing.T) {
	at := func(last int, log []api.Entry) api.State { // its own Last and Log
		return changed(aNextPrimary(), func(s *api.State) { s.Last, s.Log, s.Commit = last, log, 0 })
	}
	for _, row := range []struct {
		what  string
		own   api.State
		three api.Ballot
		four  api.Msg
		want  []api.Entry
	}{
		{"its own is the latest", at(5, other(1)), api.Ballot{Node: 3, Last: 4, Log: logOf(6)}, vote(4, 6, 3, 0, logOf(5)), other(1)},
		{"the held one is the latest", at(3, logOf(5)), api.Ballot{Node: 3, Last: 5, Log: other(1)}, vote(4, 6, 4, 0, logOf(6)), other(1)},
		{"the new one is the latest", at(4, logOf(5)), api.Ballot{Node: 3, Last: 4, Log: logOf(6)}, vote(4, 6, 5, 0, other(1)), other(1)},
		{"the latest is empty", at(4, logOf(5)), api.Ballot{Node: 3, Last: 4, Log: logOf(6)}, vote(4, 6, 5, 0, nil), nil},
		{"its own is the longest", at(4, other(3)), api.Ballot{Node: 3, Last: 4, Log: logOf(2)}, vote(4, 6, 4, 0, logOf(1)), other(3)},
		{"the held one is the longest", at(4, logOf(2)), api.Ballot{Node: 3, Last: 4, Log: other(3)}, vote(4, 6, 4, 0, logOf(1)), other(3)},
		{"the new one is the longest", at(4, logOf(2)), api.Ballot{Node: 3, Last: 4, Log: logOf(1)}, vote(4, 6, 4, 0, other(3)), other(3)},
		{"a longer one of an earlier view", at(4, logOf(2)), api.Ballot{Node: 3, Last: 3, Log: logOf(6)}, vote(4, 6, 4, 0, other(3)), other(3)},
		{"its own, of the least node", at(4, other(2)), api.Ballot{Node: 3, Last: 4, Log: logOf(2)}, vote(4, 6, 4, 0, logOf(2)), other(2)},
		{"the least node of the others", at(3, logOf(2)), api.Ballot{Node: 3, Last: 4, Log: other(2)}, vote(4, 6, 4, 0, logOf(2)), other(2)},
		{"the least node, 0, which comes", at(4, logOf(2)), api.Ballot{Node: 3, Last: 4, Log: logOf(2)}, vote(0, 6, 4, 0, other(2)), other(2)},
		{"all are empty", at(0, nil), api.Ballot{Node: 3}, vote(4, 6, 0, 0, nil), nil},
	} {
		expectLead(t, row.what, five, withBallots(row.own, row.three), row.four, 0, row.want)
		expectLead(t, row.what+", unguarded", unguarded(five), withBallots(row.own, row.three), row.four, 0, row.want)
	}
}

// The chosen Commit: the greatest of all, as far as the log goes; behind StartView the replies to what is carried out by it.
func TestVoteCarriesOut(t *testing.T) {
	at := func(commit int) api.State {
		return withBallots(changed(aNextPrimary(), func(s *api.State) { s.Log, s.Commit = logOf(4), commit }), api.Ballot{Node: 3, Last: 3, Commit: 1, Log: logOf(1)})
	}
	for own := range 5 {
		for theirs := range 6 {
			want := max(own, theirs, 1)
			expectLead(t, "their log", five, at(own), vote(4, 6, 5, theirs, logOf(5)), want, logOf(5))
			want = min(want, 4)
			expectLead(t, "its own log", five, at(own), vote(4, 6, 3, theirs, logOf(5)), want, logOf(4))
		}
	}
	s := withBallots(at(0), api.Ballot{Node: 3, Last: 2, Commit: 3, Log: logOf(3)})
	expectLead(t, "a third one's commit", five, s, vote(4, 6, 5, 1, logOf(4)), 3, logOf(4))
	expectLead(t, "a third one's commit, and a shorter log", five, s, vote(4, 6, 5, 1, logOf(2)), 2, logOf(2))
}

// Its own Commit is above the length of the log that is chosen: that is all it has carried out, and it replies to nothing.
func TestVoteOfAShorterLog(t *testing.T) {
	s := changed(aNextPrimary(), func(s *api.State) { s.Log, s.Commit = logOf(5), 4 })
	s = withBallots(s, api.Ballot{Node: 3, Last: 2, Commit: 2, Log: logOf(2)})
	for n := range 4 {
		for commit := range n + 1 {
			expectLead(t, "shorter", five, s, vote(4, 6, 5, commit, other(n)), n, other(n))
		}
	}
}

func TestVoteOfAViewAbove(t *testing.T) {
	for name, state := range everyState() {
		if name == "recovering" {
			continue
		}
		s := state()
		for _, view := range []int{7, 8, 9, 10, 11, 12, 1<<32 - 1, 1 << 32} {
			for _, node := range []int{0, 3, 4} {
				want := gone(s, view)
				if view%5 == s.Self {
					want = withBallots(want, api.Ballot{Node: node, Last: 5, Commit: 2, Log: logOf(4)})
				}
				expect(t, name, five, s, vote(node, view, 5, 2, logOf(4)), want, toAll(5, s, calling(view))...)
			}
		}
	}
}

// With F 1 the ballot of a later view is enough: StartViewChange to all, then StartView to all, then the replies.
func TestVoteOfAViewAboveWithOneBallot(t *testing.T) {
	s := changed(first(t, three, 2), func(s *api.State) { s.Log, s.Commit, s.Idle = logOf(3), 1, 4 })
	for view := 1; view < 9; view++ {
		m := from(first(t, three, 0), 2, api.Msg{Kind: api.KindDoViewChange, View: view, Last: 0, Commit: 3, Log: logOf(4)}).Msg
		called := toAll(3, s, calling(view))
		if view%3 != 2 {
			expect(t, "another", three, s, m, gone(s, view), called...)
			continue
		}
		want := led(gone(s, view), 3, logOf(4))
		sends := append(called, toAll(3, want, starting(view, 3, logOf(4)))...)
		expect(t, "the primary of it", three, s, m, want, append(sends, repliesOf(want, 1, 3)...)...)
	}
}

// Ballots of lives that are over are not counted.
func TestVoteOfLivesThatAreOver(t *testing.T) {
	s := aNextPrimary()
	m := changedMsg(vote(4, 6, 5, 2, logOf(4)), func(m *api.Msg) { m.Vector[3] = lo(10) }) // 3 has begun again
	learnt := changed(s, func(s *api.State) { s.Vector[3] = lo(10) })
	learnt = marked(learnt, 0, 2, 4)
	expect(t, "another's", five, s, m, withBallots(learnt, api.Ballot{Node: 4, Last: 5, Commit: 2, Log: logOf(4)}))
	m = changedMsg(vote(3, 6, 1, 0, nil), func(m *api.Msg) { m.Vector[3] = lo(10) })
	expect(t, "a later life's, which is less", five, s, m, withBallots(learnt, api.Ballot{Node: 3, Last: 1}))
	expectLead(t, "unguarded", unguarded(five), s, changedMsg(vote(4, 6, 5, 2, logOf(4)), func(m *api.Msg) { m.Vector[3] = lo(10) }), 2, logOf(4))
}
