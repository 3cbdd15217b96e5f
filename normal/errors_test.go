package normal_test

import (
	"math"
	"testing"

	"amnesia/api"
	"amnesia/core"
	"amnesia/message"
	"amnesia/normal"
)

// The errors in their order, and nothing beside them (P4 of DOC.md); admission, in each status, of each call.

func expectError(t *testing.T, what string, f call, c api.Config, s api.State, m api.Msg, want api.Errno) {
	t.Helper()
	if got, l, e := f(c, s, m); e != want || !isZero(got) || len(l) > 0 {
		t.Fatalf("%s: %+v %+v %d, want %d", what, got, l, e, want)
	}
}

// States that may not be, each for one reason.
func wrongStates() []api.State {
	return []api.State{
		{},
		changed(aPrimary(), func(s *api.State) { s.Self = 5 }),
		changed(aPrimary(), func(s *api.State) { s.Self = -1 }),
		changed(aPrimary(), func(s *api.State) { s.Status = 0 }),
		changed(aPrimary(), func(s *api.State) { s.Status = 4 }),
		changed(aPrimary(), func(s *api.State) { s.View, s.Last = -5, -5 }),
		changed(aPrimary(), func(s *api.State) { s.View, s.Last = 1<<32+5, 1<<32+5 }),
		changed(aPrimary(), func(s *api.State) { s.Last = 5 }),
		changed(aPrimary(), func(s *api.State) { s.Log = logOf(7) }),
		changed(aPrimary(), func(s *api.State) { s.Log[4] = s.Log[0] }),
		changed(aPrimary(), func(s *api.State) { s.Commit = 6 }),
		changed(aPrimary(), func(s *api.State) { s.Commit = -1 }),
		changed(aPrimary(), func(s *api.State) { s.Vector = s.Vector[:4] }),
		changed(aPrimary(), func(s *api.State) { s.Idle = 1 }),
		changed(aPrimary(), func(s *api.State) { s.Acks[1].Place = 6 }),
		changed(aPrimary(), func(s *api.State) { s.Acks[1].Draw = lo(1) }),
		changed(aPrimary(), func(s *api.State) { s.Marks = []api.Mark{{Node: 2}} }),
		changed(aBackup(), func(s *api.State) { s.Idle = 9 }),
		changed(aBackup(), func(s *api.State) { s.Acks = []api.Ack{{Node: 0, Draw: lo(4), Place: 1}} }),
		changed(aChangingBackup(), func(s *api.State) { s.Last = 6 }),
		changed(aRecovering(), func(s *api.State) { s.Log = logOf(1) }),
	}
}

// wrongMsgs: messages of that kind with one field that may not be.
func wrongMsgs(k api.Kind) []api.Msg {
	var l []api.Msg
	add := func(change func(*api.Msg)) { l = append(l, changedMsg(msgOf(k, 1), change)) }
	add(func(m *api.Msg) { m.Draw = lo(1) })
	add(func(m *api.Msg) { m.Last = 1 })
	add(func(m *api.Msg) { m.Log = logOf(1) })
	add(func(m *api.Msg) { m.Result.Code = api.ResCount })
	add(func(m *api.Msg) { m.Entry = api.Entry{Client: 16, Number: 1, Op: count} })
	add(func(m *api.Msg) { m.Entry = api.Entry{Number: -1, Op: count} })
	add(func(m *api.Msg) { m.Entry = api.Entry{Number: 1, Op: api.Op{Kind: 9}} })
	add(func(m *api.Msg) { m.Node = 5 })
	add(func(m *api.Msg) { m.View = -1 })
	add(func(m *api.Msg) { m.View = 1<<32 + 4 })
	add(func(m *api.Msg) { m.Place = 7 })
	add(func(m *api.Msg) { m.Place = -1 })
	add(func(m *api.Msg) { m.Commit = 7 })
	add(func(m *api.Msg) { m.Vector = make(api.Vector, 4) })
	switch k {
	case api.KindPrepare:
		add(func(m *api.Msg) { m.Node = 2 }) // not the primary
		add(func(m *api.Msg) { m.Place = 0 })
	case api.KindCommit:
		add(func(m *api.Msg) { m.Node = 2 })
	case api.KindQuery:
		add(func(m *api.Msg) { m.Entry.Op = write(1, "a") })
		add(func(m *api.Msg) { m.Entry.Op = api.Op{Kind: api.OpAppend} })
	case api.KindRequest:
		add(func(m *api.Msg) { m.Entry.Number = 0 })
	}
	return l
}

func otherKinds(k api.Kind) []api.Kind {
	l := []api.Kind{math.MinInt, -1, 0, 15, 16, math.MaxInt}
	for other := api.KindRequest; other <= api.KindTold; other++ {
		if other != k {
			l = append(l, other)
		}
	}
	return l
}

func TestErrorsInTheirOrder(t *testing.T) {
	for k, f := range calls() {
		right := msgOf(k, 1)
		checkMsg(t, five, right)
		msgs := append(wrongMsgs(k), right, api.Msg{}, api.Msg{Kind: 99})
		for _, m := range msgs {
			for _, c := range wrongConfigs() {
				expectError(t, "configuration", f, c, aPrimary(), m, api.ErrConfig)
				expectError(t, "configuration and state", f, c, api.State{}, m, api.ErrConfig)
			}
			for _, s := range wrongStates() {
				if core.Check(five, s) != api.ErrState {
					t.Fatal("the test's own state may be:", s)
				}
				expectError(t, "state", f, five, s, m, api.ErrState)
			}
		}
		for name, state := range everyState() {
			for _, other := range otherKinds(k) {
				for _, m := range msgs { // right but for its kind, and wrong beside
					m.Kind = other
					expectError(t, name+", kind", f, five, state(), m, api.ErrKind)
				}
			}
			for _, m := range wrongMsgs(k) {
				if e := message.Check(five, m); e != api.ErrField {
					t.Fatal("the test's own message may be:", m)
				}
				expectError(t, name+", field", f, five, state(), m, api.ErrField)
			}
		}
	}
}

// Each kind's message that may be, at another kind's call.
func TestKindsOfOtherCalls(t *testing.T) {
	for k, f := range calls() {
		for _, other := range kinds() {
			_, _, e := f(five, aPrimary(), msgOf(other, 1))
			if (e == api.OK) != (k == other) || k != other && e != api.ErrKind {
				t.Error(k, other, e)
			}
		}
	}
}

// A field that may not be is told ahead of anything that admission looks at.
func TestFieldsAheadOfAdmission(t *testing.T) {
	m := changedMsg(prepareOK(1, 6, 7), func(m *api.Msg) { m.Vector[1] = lo(0) }) // by itself, of an earlier life
	expectError(t, "by itself", normal.PrepareOK, five, aPrimary(), m, api.ErrField)
	expectError(t, "recovering", normal.PrepareOK, five, aRecovering(), m, api.ErrField)
}

func TestErrorsOfBeat(t *testing.T) {
	expectBeatError := func(c api.Config, s api.State, want api.Errno) {
		t.Helper()
		if got, l, e := normal.Beat(c, s); e != want || !isZero(got) || len(l) > 0 {
			t.Errorf("%+v %+v %d, want %d", got, l, e, want)
		}
	}
	for _, c := range wrongConfigs() {
		expectBeatError(c, api.State{}, api.ErrConfig)
		expectBeatError(c, aPrimary(), api.ErrConfig)
		expectBeatError(c, aBackup(), api.ErrConfig)
	}
	for _, s := range wrongStates() {
		expectBeatError(five, s, api.ErrState)
	}
	for _, s := range []api.State{aBackup(), aNextPrimary(), aChangingBackup(), aRecovering()} {
		expectBeatError(five, s, api.ErrStatus)
	}
}

// Each call between replicas, in each status, at a primary and at a backup: a message that is not admitted changes nothing; one that is, and does nothing more, is merged.
func TestAdmissionInEachStatus(t *testing.T) {
	for name, state := range everyState() {
		for _, k := range []api.Kind{api.KindPrepare, api.KindPrepareOK, api.KindCommit} {
			s := state()
			for node := range 5 {
				if node == s.Self {
					expectNothing(t, name+", by itself", five, s, msgOf(k, node))
					expectNothing(t, name+", by itself, unguarded", unguarded(five), s, msgOf(k, node))
					continue
				}
				if vectorOfFive[node].Lo > 0 {
					expectNothing(t, name+", of a life that is over", five, s, changedMsg(msgOf(k, node), func(m *api.Msg) { m.Vector[node].Lo-- }))
				}
				expectNothing(t, name+", to a life that is over", five, s, changedMsg(msgOf(k, node), func(m *api.Msg) { m.Vector[s.Self].Lo++ }))

				beside := (s.Self + 1) % 5
				m := changedMsg(msgOf(k, node), func(m *api.Msg) { m.Vector[beside].Lo += 3 })
				got, _ := do(t, five, s, m)
				if got.Vector[beside].Lo != s.Vector[beside].Lo+3 {
					t.Fatal(name, "has not learnt it:", got)
				}
				got, _ = do(t, unguarded(five), s, m)
				if got.Vector[beside] != s.Vector[beside] {
					t.Fatal(name, "has learnt it, unguarded:", got)
				}
				for _, c := range []api.Config{five, unguarded(five)} {
					w := modelOf(c, s, m)
					expect(t, name+", merged", c, s, m, w.s, w.out...)
				}
			}
		}
	}
}

func modelOf(c api.Config, s api.State, m api.Msg) model {
	w := model{c: c, s: s, m: m}
	w.step()
	return w
}

// What was learnt is answered even where the message does nothing more, and votes of lives that are over by it fall out in every status.
func TestMergedThoughNothingMore(t *testing.T) {
	learnt := func(s api.State) api.State {
		return changed(s, func(s *api.State) { s.Vector[3], s.Vector[0] = lo(10), lo(5) })
	}
	heard := func(m api.Msg) api.Msg {
		m.Vector[3], m.Vector[0] = lo(10), lo(5)
		return m
	}
	s := learnt(aBackup())
	expect(t, "a view below", five, aBackup(), heard(commit(5, 3)), s)
	expect(t, "a view below", five, aBackup(), heard(prepare(5, 3, 3, next)), s)
	expect(t, "an acknowledgement at a backup", five, aBackup(), heard(prepareOK(3, 6, 3)), s)
	s = learnt(aPrimary())
	s.Acks = []api.Ack{{Node: 2, Place: 4}}
	expect(t, "place 0", five, aPrimary(), heard(prepareOK(3, 6, 0)), s)
	s = learnt(aChangingBackup())
	s.Marks = []api.Mark{{Node: 1, Draw: lo(1)}, {Node: 4, Draw: lo(2)}}
	expect(t, "changing", five, aChangingBackup(), heard(prepareOK(3, 6, 3)), s)
	expect(t, "changing, and it asks", five, aChangingBackup(), heard(commit(6, 3)), s, from(s, 1, getState(6)))
	s = learnt(aNextPrimary())
	s.Marks, s.Ballots = []api.Mark{{Node: 2}, {Node: 4, Draw: lo(2)}}, nil
	expect(t, "next primary", five, aNextPrimary(), heard(commit(5, 3)), s)
	s = learnt(aRecovering())
	s.Answers = []api.Answer{{Node: 1, Draw: lo(1), View: 6, Commit: 1, Log: logOf(2)}}
	for _, m := range []api.Msg{commit(6, 3), commit(0, 0), commit(1<<32, 0), prepare(6, 1, 0, next), prepare(0, 1, 0, next), prepareOK(3, 0, 0), prepareOK(3, 6, 1)} {
		expect(t, "recovering", five, aRecovering(), heard(m), s)
	}
}

// A recovering replica does nothing more, whatever comes: not in its view 0 either.
func TestRecoveringDoesNothing(t *testing.T) {
	for _, m := range []api.Msg{
		request(0, 1, w), query(0, 1, 0, count), query(0, 1, 3, read(7)), prepareOK(0, 0, 0), prepareOK(0, 6, 1),
		prepare(0, 1, 1, next), prepare(6, 1, 1, next), prepare(6, 5, 0, next), commit(0, 0), commit(0, 3), commit(6, 3),
	} {
		expectNothing(t, "recovering", five, aRecovering(), m)
		primary := changed(aRecovering(), func(s *api.State) { s.Self, s.Answers = 0, nil }) // of view 0, the view that it has
		expectNothing(t, "recovering", five, primary, m)
	}
}
