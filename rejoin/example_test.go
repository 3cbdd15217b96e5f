package rejoin_test

import (
	"testing"

	"amnesia/api"
	"amnesia/rejoin"
)

// The chapter's examples 1 to 7: F 1, Room 4; three replicas.

// again: a replica in a later life, and what it asks.
func again(t *testing.T, c api.Config, self int, d api.Draw) (api.State, []api.Send) {
	t.Helper()
	s, l, e := rejoin.Start(c, self, d)
	if e != api.OK {
		t.Fatal(e)
	}
	return s, l
}

// inView: a replica of three in its first life, normal in a view, with that log.
func inView(self, view, commit int, log []api.Entry) api.State {
	return api.State{Self: self, Status: api.StatusNormal, View: view, Last: view, Log: log, Commit: commit, Vector: los(0, 0, 0)}
}

// changingTo: likewise, changing to a view.
func changingTo(self, view int) api.State {
	return api.State{Self: self, Status: api.StatusChange, View: view, Vector: los(0, 0, 0)}
}

// answerTo0: to replica 0's life with the draw 5, by one that has not yet heard more.
func answerTo0(s api.State) api.Msg {
	m := answering(s.View, lo(5), 0, nil)
	if s.View%3 == s.Self {
		m = answering(s.View, lo(5), s.Commit, s.Log)
	}
	return from(knows(s, 0, lo(5)), 0, m).Msg
}

func TestExample1(t *testing.T) {
	s, l := again(t, three, 0, lo(5))
	want := api.State{Self: 0, Status: api.StatusRecovering, Vector: los(5, 0, 0)}
	m := api.Msg{Kind: api.KindRecovery, Draw: lo(5)}
	if !same(s, want) || !sameSends(l, []api.Send{from(want, 1, m), from(want, 2, m)}) {
		t.Error(s, l)
	}
	if s, l, e := rejoin.Start(three, 0, api.Draw{}); e != api.ErrArg || !isZero(s) || len(l) > 0 {
		t.Error(s, l, e)
	}
}

func TestExample2(t *testing.T) {
	_, l := again(t, three, 0, lo(5))
	s := inView(1, 1, 1, logOf(2))
	want := changed(s, func(s *api.State) { s.Vector = los(5, 0, 0) })
	expect(t, "the primary", three, s, l[0].Msg, want, from(want, 0, answering(1, lo(5), 1, logOf(2))))
	s = inView(2, 1, 1, logOf(2))
	want = changed(s, func(s *api.State) { s.Vector = los(5, 0, 0) })
	expect(t, "a backup", three, s, l[1].Msg, want, from(want, 0, answering(1, lo(5), 0, nil)))
	s = changingTo(2, 1)
	want = changed(s, func(s *api.State) { s.Vector = los(5, 0, 0) })
	expect(t, "changing", three, s, l[1].Msg, want)
}

func TestExample3(t *testing.T) {
	primary, backup := answerTo0(inView(1, 1, 1, logOf(2))), answerTo0(inView(2, 1, 0, logOf(1)))
	for _, both := range [][]api.Msg{{primary, backup}, {backup, primary}} {
		s, _ := again(t, three, 0, lo(5))
		want := changed(s, func(s *api.State) { s.Answers = modelOf(three, *s, both[0]).s.Answers })
		expect(t, "the first", three, s, both[0], want)
		s, _ = do(t, three, s, both[0])
		expect(t, "the second", three, s, both[1], takenOver(s, 1, 1, logOf(2)), from(s, 1, api.Msg{Kind: api.KindPrepareOK, View: 1, Place: 2}))
	}
}

func TestExample4(t *testing.T) {
	one, two := answerTo0(inView(1, 1, 1, logOf(2))), answerTo0(inView(2, 2, 2, other(2)))
	s, _ := again(t, three, 0, lo(5))
	s, _ = do(t, three, s, one)
	expect(t, "with 2's log", three, s, two, takenOver(s, 2, 2, other(2)))

	one, two = answerTo0(inView(1, 0, 1, logOf(2))), answerTo0(inView(2, 0, 2, logOf(2)))
	s, _ = again(t, three, 0, lo(5))
	s, l := do(t, three, s, one)
	if len(l) > 0 {
		t.Fatal(l)
	}
	s, l = do(t, three, s, two)
	want := api.State{Self: 0, Status: api.StatusRecovering, Vector: los(5, 0, 0), Answers: []api.Answer{{Node: 1}, {Node: 2}}}
	if !same(s, want) || len(l) > 0 {
		t.Error(s, l)
	}
}

func TestExample5(t *testing.T) {
	s, _ := again(t, three, 0, lo(5))
	m := changedMsg(answerTo0(inView(1, 1, 1, logOf(2))), func(m *api.Msg) { m.Draw = lo(4) })
	expectNothing(t, "another draw", three, s, m)
	m.Vector[2] = lo(3)
	expect(t, "another draw, learnt", three, s, m, changed(s, func(s *api.State) { s.Vector = los(5, 0, 3) }))
}

func TestExample6(t *testing.T) {
	s := inView(1, 1, 1, logOf(2))
	m := from(inView(2, 1, 0, nil), 1, api.Msg{Kind: api.KindGetState, View: 1}).Msg
	expect(t, "its view", three, s, m, s, from(s, 2, api.Msg{Kind: api.KindNewState, View: 1, Commit: 1, Log: logOf(2)}))
	m.View = 0
	expectNothing(t, "another view", three, s, m)
}

func TestExample7(t *testing.T) {
	m := from(inView(1, 1, 1, logOf(2)), 2, api.Msg{Kind: api.KindNewState, View: 1, Commit: 1, Log: logOf(2)}).Msg
	s := changingTo(2, 1)
	expect(t, "changing to it", three, s, m, inView(2, 1, 1, logOf(2)), from(s, 1, api.Msg{Kind: api.KindPrepareOK, View: 1, Place: 2}))
	expectNothing(t, "normal with two", three, inView(2, 1, 0, other(2)), m)
	expectNothing(t, "changing to another", three, changingTo(2, 2), m)
}
