package rejoin_test

import (
	"math"
	"testing"

	"amnesia/api"
	"amnesia/core"
	"amnesia/message"
	"amnesia/rejoin"
)

// The errors in their order, and nothing beside them (P4 of DOC.md); admission, in each status, of each call.

func expectError(t *testing.T, what string, f call, c api.Config, s api.State, m api.Msg, want api.Errno) {
	t.Helper()
	if got, l, e := f(c, s, m); e != want || !isZero(got) || len(l) > 0 {
		t.Fatalf("%s: %+v %+v %d, want %d", what, got, l, e, want)
	}
}

// States that may not be, each for one reason.
func wrongStates() []api.State {
	return []api.State{
		{},
		changed(aPrimary(), func(s *api.State) { s.Self = 5 }),
		changed(aPrimary(), func(s *api.State) { s.Self = -1 }),
		changed(aPrimary(), func(s *api.State) { s.Status = 0 }),
		changed(aPrimary(), func(s *api.State) { s.Status = 4 }),
		changed(aPrimary(), func(s *api.State) { s.View, s.Last = -5, -5 }),
		changed(aPrimary(), func(s *api.State) { s.View, s.Last = 1<<32+5, 1<<32+5 }),
		changed(aPrimary(), func(s *api.State) { s.Last = 5 }),
		changed(aPrimary(), func(s *api.State) { s.Log = logOf(7) }),
		changed(aPrimary(), func(s *api.State) { s.Log[4] = s.Log[0] }),
		changed(aPrimary(), func(s *api.State) { s.Commit = 6 }),
		changed(aPrimary(), func(s *api.State) { s.Commit = -1 }),
		changed(aPrimary(), func(s *api.State) { s.Vector = s.Vector[:4] }),
		changed(aPrimary(), func(s *api.State) { s.Idle = 1 }),
		changed(aPrimary(), func(s *api.State) { s.Marks = []api.Mark{{Node: 2}} }),
		changed(aBackup(), func(s *api.State) { s.Idle = 9 }),
		changed(aBackup(), func(s *api.State) { s.Acks = []api.Ack{{Node: 0, Draw: lo(4), Place: 1}} }),
		changed(aChangingBackup(), func(s *api.State) { s.Last = 6 }),
		changed(aChangingBackup(), func(s *api.State) { s.Marks[1].Draw = lo(2) }),
		changed(aNextPrimary(), func(s *api.State) { s.Ballots[0].Last = 6 }),
		changed(aRecovering(), func(s *api.State) { s.Log = logOf(1) }),
		changed(aRecovering(), func(s *api.State) { s.View = 1 }),
		changed(aRecovering(), func(s *api.State) { s.Idle = 1 }),
		changed(aRecovering(), func(s *api.State) { s.Vector[4] = api.Draw{} }),
		changed(aRecovering(), func(s *api.State) { s.Answers[0].Draw = lo(3) }),
		changed(aRecovering(), func(s *api.State) { s.Answers[0].Node = 4 }),
		changed(aRecovering(), func(s *api.State) { s.Answers[0].Log = logOf(1) }), // it is not its view's primary
		changed(aRecovering(), func(s *api.State) { s.Answers[1].Commit = 3 }),
		changed(aRecovering(), func(s *api.State) { s.Answers[2].View = 1<<32 + 1 }),
	}
}

// wrongMsgs: messages of that kind with one field that may not be.
func wrongMsgs(k api.Kind) []api.Msg {
	var l []api.Msg
	add := func(change func(*api.Msg)) { l = append(l, changedMsg(msgOf(k, 1), change)) }
	add(func(m *api.Msg) { m.Last = 1 })
	add(func(m *api.Msg) { m.Last = -1 })
	add(func(m *api.Msg) { m.Place = 1 })
	add(func(m *api.Msg) { m.Entry = api.Entry{Client: 1, Number: 1, Op: count} })
	add(func(m *api.Msg) { m.Result.Code = api.ResCount })
	add(func(m *api.Msg) { m.Node = 5 })
	add(func(m *api.Msg) { m.Node = -1 })
	add(func(m *api.Msg) { m.View = -4 })
	add(func(m *api.Msg) { m.View = 1<<32 + 5 })
	add(func(m *api.Msg) { m.Commit = 5 })
	add(func(m *api.Msg) { m.Commit = -1 })
	add(func(m *api.Msg) { m.Log = logOf(7) })
	add(func(m *api.Msg) { m.Log = append(logOf(4), logOf(1)...) })
	add(func(m *api.Msg) { m.Vector = append(m.Vector[:3], m.Vector[4:]...) })
	add(func(m *api.Msg) { m.Vector = append(m.Vector, lo(0)) })
	add(func(m *api.Msg) { m.Vector = nil })
	switch k {
	case api.KindRecovery:
		add(func(m *api.Msg) { m.Draw = lo(1) }) // another one than its vector has
		add(func(m *api.Msg) { m.Draw, m.Vector[1] = api.Draw{}, api.Draw{} })
		add(func(m *api.Msg) { m.View = 1 })
		add(func(m *api.Msg) { m.Log = logOf(1) })
	case api.KindRecoveryResponse:
		add(func(m *api.Msg) { m.Draw = api.Draw{} })
		add(func(m *api.Msg) { m.View = 7 }) // its primary is 2
		add(func(m *api.Msg) { m.Node = 3 })
	case api.KindGetState:
		add(func(m *api.Msg) { m.Draw = lo(1) })
		add(func(m *api.Msg) { m.Log = logOf(1) })
	case api.KindNewState:
		add(func(m *api.Msg) { m.Draw = lo(1) })
	}
	return l
}

func otherKinds(k api.Kind) []api.Kind {
	l := []api.Kind{math.MinInt, -1, 0, 15, 16, math.MaxInt}
	for other := api.KindRequest; other <= api.KindTold; other++ {
		if other != k {
			l = append(l, other)
		}
	}
	return l
}

func TestErrorsInTheirOrder(t *testing.T) {
	for k, f := range calls() {
		right := msgOf(k, 1)
		checkMsg(t, five, right)
		msgs := append(wrongMsgs(k), right, api.Msg{}, api.Msg{Kind: 99})
		for _, m := range msgs {
			for _, c := range wrongConfigs() {
				expectError(t, "configuration", f, c, aPrimary(), m, api.ErrConfig)
				expectError(t, "configuration and state", f, c, api.State{}, m, api.ErrConfig)
			}
			for _, s := range wrongStates() {
				if core.Check(five, s) != api.ErrState {
					t.Fatal("the test's own state may be:", s)
				}
				expectError(t, "state", f, five, s, m, api.ErrState)
			}
		}
		for name, state := range everyState() {
			for _, other := range otherKinds(k) {
				for _, m := range msgs { // right but for its kind, and wrong beside
					m.Kind = other
					expectError(t, name+", kind", f, five, state(), m, api.ErrKind)
				}
			}
			for _, m := range wrongMsgs(k) {
				if e := message.Check(five, m); e != api.ErrField {
					t.Fatal("the test's own message may be:", m)
				}
				expectError(t, name+", field", f, five, state(), m, api.ErrField)
			}
		}
	}
}

// Each kind's message that may be, at another kind's call.
func TestKindsOfOtherCalls(t *testing.T) {
	for k, f := range calls() {
		for _, other := range kinds() {
			_, _, e := f(five, aPrimary(), msgOf(other, 3))
			if (e == api.OK) != (k == other) || k != other && e != api.ErrKind {
				t.Error(k, other, e)
			}
		}
	}
}

// A field that may not be is told ahead of anything that admission looks at.
func TestFieldsAheadOfAdmission(t *testing.T) {
	m := changedMsg(newState(1, 6, 5, logOf(4)), func(m *api.Msg) { m.Vector[1] = lo(0) }) // by itself, of an earlier life
	expectError(t, "by itself", rejoin.NewState, five, aPrimary(), m, api.ErrField)
	expectError(t, "of an earlier life", rejoin.NewState, five, aRecovering(), m, api.ErrField)
}

func TestErrorsOfAsk(t *testing.T) {
	expectAsked := func(what string, c api.Config, s api.State, want api.Errno) {
		t.Helper()
		if got, l, e := rejoin.Ask(c, s); e != want || e != api.OK && (!isZero(got) || len(l) > 0) {
			t.Errorf("%s: %+v %+v %d, want %d", what, got, l, e, want)
		}
	}
	for _, c := range wrongConfigs() {
		expectAsked("configuration and state", c, api.State{}, api.ErrConfig)
		for name, state := range everyState() {
			expectAsked(name+", configuration", c, state(), api.ErrConfig)
		}
	}
	for _, s := range wrongStates() {
		expectAsked("state", five, s, api.ErrState)
	}
	for name, state := range everyState() {
		want := api.ErrStatus
		if name == "recovering" {
			want = api.OK
		}
		expectAsked(name, five, state(), want)
	}
}

// later: the state as one that has heard of a later life of that node than the messages know.
func later(s api.State, node int) api.State {
	by := getState((node+1)%5, 0)
	if by.Node == s.Self {
		by.Node = (node + 2) % 5
	}
	by.Vector[node] = api.Draw{Hi: 1}
	s, _ = wantAdmit(five, s, by)
	return s
}

// Each call, in each status, at a primary and at a backup: a message that is not admitted changes nothing; one that is, and does nothing more, is merged.
func TestAdmissionInEachStatus(t *testing.T) {
	for name, state := range everyState() {
		for _, k := range kinds() {
			s := state()
			for node := range 5 {
				m := msgOf(k, node)
				if node == s.Self {
					expectNothing(t, name+", by itself", five, s, m)
					expectNothing(t, name+", by itself, unguarded", unguarded(five), s, m)
					continue
				}
				expectNothing(t, name+", of a life that is over", five, later(s, node), m)
				expectNothing(t, name+", to a life that is over", five, s, changedMsg(msgOf(k, node), func(m *api.Msg) { m.Vector[s.Self].Lo++ }))

				beside := (s.Self + 1) % 5
				if beside == node {
					beside = (node + 1) % 5
				}
				m = changedMsg(msgOf(k, node), func(m *api.Msg) { m.Vector[beside].Lo += 3 })
				got, _ := do(t, five, s, m)
				if got.Vector[beside].Lo != s.Vector[beside].Lo+3 {
					t.Fatal(name, "has not learnt it:", got)
				}
				got, _ = do(t, unguarded(five), s, m)
				if got.Vector[beside] != s.Vector[beside] {
					t.Fatal(name, "has learnt it, unguarded:", got)
				}
				for _, c := range []api.Config{five, unguarded(five)} {
					w := modelOf(c, s, m)
					expect(t, name+", merged", c, s, m, w.s, w.out...)
				}
			}
		}
	}
}

// What was learnt is answered even where the message does nothing more, and votes of lives that are over by it fall out in every status.
func TestMergedThoughNothingMore(t *testing.T) {
	learnt := func(s api.State) api.State {
		return changed(s, func(s *api.State) { s.Vector[3], s.Vector[0] = lo(10), lo(5) })
	}
	heard := func(m api.Msg) api.Msg {
		m.Vector[3], m.Vector[0] = lo(10), lo(5)
		if m.Kind == api.KindRecovery {
			m.Draw = lo(10)
		}
		return m
	}
	idle := []api.Msg{response(3, 8, 2, logOf(4)), getState(3, 5), getState(3, 7), newState(3, 5, 5, logOf(5))}
	s := learnt(aBackup())
	for _, m := range append(idle, newState(3, 6, 3, logOf(3)), newState(3, 7, 5, logOf(5))) {
		expect(t, "backup", five, aBackup(), heard(m), s)
	}
	s = learnt(aPrimary())
	s.Acks = []api.Ack{{Node: 2, Place: 4}}
	for _, m := range append(idle, newState(3, 6, 6, logOf(6)), newState(3, 11, 5, logOf(5))) {
		expect(t, "primary", five, aPrimary(), heard(m), s)
	}
	s = learnt(aChangingBackup())
	s.Marks = []api.Mark{{Node: 1, Draw: lo(1)}, {Node: 4, Draw: lo(2)}}
	for _, m := range append(idle, recovery(3), getState(3, 6), newState(3, 7, 5, logOf(5))) {
		expect(t, "changing", five, aChangingBackup(), heard(m), s)
	}
	s = learnt(aNextPrimary())
	s.Marks, s.Ballots = []api.Mark{{Node: 2}, {Node: 4, Draw: lo(2)}}, nil
	for _, m := range append(idle, recovery(3), getState(3, 6), newState(3, 6, 5, logOf(5))) {
		expect(t, "next primary", five, aNextPrimary(), heard(m), s)
	}
	s = learnt(aRecovering())
	s.Answers = []api.Answer{{Node: 1, Draw: lo(1), View: 6, Commit: 1, Log: logOf(2)}}
	for _, m := range []api.Msg{recovery(3), getState(3, 0), getState(3, 6), newState(3, 0, 0, logOf(1)), newState(3, 6, 5, logOf(5))} {
		expect(t, "recovering", five, aRecovering(), heard(m), s)
	}
	m := changedMsg(heard(response(3, 8, 2, logOf(4))), func(m *api.Msg) { m.Draw = lo(1) })
	expect(t, "recovering, another draw", five, aRecovering(), m, s)
}
