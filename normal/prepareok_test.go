package normal_test

import (
	"slices"
	"testing"

	"amnesia/api"
)

// P10.3: PrepareOK. aPrimary leads view 6 of five replicas, has five entries, of which two are carried out, and acknowledgements of 0 (place 1) and 2 (place 4).

// counted: the primary with these acknowledgements: node and place.
func counted(commit int, acks ...[2]int) api.State {
	return changed(aPrimary(), func(s *api.State) {
		s.Commit, s.Acks = commit, nil
		for _, a := range acks {
			s.Acks = append(s.Acks, api.Ack{Node: a[0], Draw: s.Vector[a[0]], Place: a[1]})
		}
	})
}

// committed: what goes out as a primary commits: the replies of the places behind from, up to to; then Commit to all others.
func committed(s api.State, from, to int) []api.Send {
	var l []api.Send
	for place := from + 1; place <= to; place++ {
		e := s.Log[place-1]
		l = append(l, api.Send{To: 7 + e.Client, Msg: api.Msg{Kind: api.KindReply, Node: s.Self, View: s.View, Place: place, Entry: api.Entry{Client: e.Client, Number: e.Number}, Result: resultsOfLog[place-1]}})
	}
	return append(l, toAll(5, s, api.Msg{Kind: api.KindCommit, View: s.View, Commit: to})...)
}

func TestPrepareOKThatIsNotEnough(t *testing.T) {
	s := aPrimary()
	expect(t, "a third", five, s, prepareOK(3, 6, 2), counted(2, [2]int{0, 1}, [2]int{2, 4}, [2]int{3, 2}))
	expect(t, "the last node", five, s, prepareOK(4, 6, 1), counted(2, [2]int{0, 1}, [2]int{2, 4}, [2]int{4, 1}))
	expect(t, "more of one that counts", five, s, prepareOK(2, 6, 5), counted(2, [2]int{0, 1}, [2]int{2, 5}))
	expect(t, "what is committed", five, s, prepareOK(0, 6, 2), counted(2, [2]int{0, 2}, [2]int{2, 4}))
	none := counted(2)
	expect(t, "the first", five, none, prepareOK(0, 6, 5), counted(2, [2]int{0, 5}))
	expectNothing(t, "the same", five, s, prepareOK(2, 6, 4))
	expectNothing(t, "less", five, s, prepareOK(2, 6, 3))
}

func TestPrepareOKThatCommits(t *testing.T) {
	for place := 3; place <= 5; place++ {
		s, to := aPrimary(), min(place, 4) // 2 has reached 4
		got := counted(to, [2]int{0, place}, [2]int{2, 4})
		expect(t, "by one that counts", five, s, prepareOK(0, 6, place), got, committed(s, 2, to)...)
		got = counted(to, [2]int{0, 1}, [2]int{2, 4}, [2]int{3, place})
		expect(t, "by a new one", five, s, prepareOK(3, 6, place), got, committed(s, 2, to)...)
	}
	s := counted(0, [2]int{4, 5})
	expect(t, "all at once", five, s, prepareOK(0, 6, 5), counted(5, [2]int{0, 5}, [2]int{4, 5}), committed(s, 0, 5)...)
	s = counted(5, [2]int{4, 5})
	expect(t, "all is committed", five, s, prepareOK(0, 6, 5), counted(5, [2]int{0, 5}, [2]int{4, 5}))
	s = counted(2, [2]int{0, 5}, [2]int{2, 5}) // as one that has pruned a vote and got it again
	expect(t, "reached before", five, s, prepareOK(3, 6, 1), counted(5, [2]int{0, 5}, [2]int{2, 5}, [2]int{3, 1}), committed(s, 2, 5)...)
}

// F others are asked for: of three replicas one, of seven three.
func TestPrepareOKOfF(t *testing.T) {
	for f := 1; f <= 3; f++ {
		c := api.Config{F: f, Room: 4, Patience: 6}
		s := first(t, c, 0)
		s.Log = logOf(2)
		for i := 1; i <= 2*f; i++ {
			got, l := do(t, c, s, api.Msg{Kind: api.KindPrepareOK, Node: i, Place: 1, Vector: s.Vector})
			if len(got.Acks) != i || (got.Commit == 1) != (i >= f) || (len(l) > 0) != (i == f) {
				t.Fatalf("F %d, %d: %+v %+v", f, i, got, l)
			}
			s = got
		}
	}
}

func TestPrepareOKThatIsNotCounted(t *testing.T) {
	s := aPrimary()
	for _, node := range []int{0, 2, 3, 4} {
		for _, view := range []int{0, 1, 5, 7, 11, 1 << 32} {
			expectNothing(t, "another view", five, s, prepareOK(node, view, 5))
		}
		expectNothing(t, "place 0", five, s, prepareOK(node, 6, 0))
		expectNothing(t, "above the log's end", five, s, prepareOK(node, 6, 6))
	}
	expectNothing(t, "by itself", five, s, prepareOK(1, 6, 5))
	expectNothing(t, "by itself, unguarded", unguarded(five), s, prepareOK(1, 6, 5))
	empty := changed(s, func(s *api.State) { s.Log, s.Commit, s.Acks = nil, 0, nil })
	for place := range 3 {
		expectNothing(t, "an empty log", five, empty, prepareOK(0, 6, place))
	}
	for name, state := range everyState() {
		if name != "primary" {
			s := state()
			for place := range 5 {
				expectNothing(t, name, five, s, prepareOK(3, s.View, place))
			}
		}
	}
}

// The message is merged ahead of counting: votes of lives that are over by it do not count, and its own is of the life that it tells.
func TestPrepareOKOfLaterLives(t *testing.T) {
	s := aPrimary()
	m := prepareOK(0, 6, 5)
	m.Vector[2] = lo(3) // 2, which has acknowledged, has begun again since
	want := counted(2, [2]int{0, 5})
	want.Vector[2] = lo(3)
	expect(t, "another's vote falls out", five, s, m, want)
	m = prepareOK(2, 6, 3)
	m.Vector[2] = lo(3) // its own later life has reached less
	want = counted(2, [2]int{0, 1}, [2]int{2, 3})
	want.Vector[2], want.Acks[1].Draw = lo(3), lo(3)
	expect(t, "its own vote of an earlier life falls out", five, s, m, want)
	m.Place = 0
	want.Acks = want.Acks[:1]
	expect(t, "likewise, though it is not counted", five, s, m, want)
	m = prepareOK(0, 6, 5)
	m.Vector[0] = lo(3)
	expectNothing(t, "of a life that is over", five, s, m)
	m = prepareOK(0, 6, 5)
	m.Vector[1] = lo(2)
	expectNothing(t, "to a life that is over", five, s, m)
}

// Without looking at crash vectors the vote is of the life that the primary knows.
func TestPrepareOKUnguarded(t *testing.T) {
	s := aPrimary()
	m := prepareOK(3, 6, 5)
	m.Vector = los(0, 9, 9, 1, 1)
	expect(t, "unguarded", unguarded(five), s, m, counted(4, [2]int{0, 1}, [2]int{2, 4}, [2]int{3, 5}), committed(s, 2, 4)...)
}

// The replies go out in the places' order, whoever the clients are, and ahead of Commit.
func TestRepliesGoOutInOrder(t *testing.T) {
	s := counted(0, [2]int{3, 5})
	s.Log = []api.Entry{{Client: 15, Number: 1, Op: count}, {Client: 3, Number: 1, Op: count}, {Client: 15, Number: 2, Op: count}, {Client: 0, Number: 9, Op: count}, {Client: 3, Number: 4, Op: count}}
	_, l := do(t, five, s, prepareOK(4, 6, 5))
	var to []int
	for _, send := range l {
		to = append(to, send.To)
	}
	if !slices.Equal(to, []int{22, 10, 22, 7, 10, 0, 2, 3, 4}) {
		t.Error(to)
	}
}
