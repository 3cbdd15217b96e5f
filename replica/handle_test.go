package replica_test

import (
	"math/rand/v2"
	"slices"
	"testing"

	"amnesia/api"
)

// P13.1: Handle, and Tick beside it over runs of calls.

func TestRequestLeadsToPrepare(t *testing.T) {
	s, m := aPrimary(), msgOf(api.KindRequest, 0)
	want := changed(s, func(s *api.State) { s.Log = append(s.Log, m.Entry) })
	expectHandled(t, "primary", five, s, m, want, toAll(5, s, api.Msg{Kind: api.KindPrepare, View: 6, Place: 6, Commit: 2, Entry: m.Entry})...)
	expectHandled(t, "backup", five, aBackup(), m, aBackup())
}

func TestPrepareLeadsToPrepareOK(t *testing.T) {
	s, m := aBackup(), msgOf(api.KindPrepare, 1)
	want := changed(s, func(s *api.State) { s.Log, s.Commit, s.Idle = append(s.Log, m.Entry), 2, 0 })
	expectHandled(t, "backup", five, s, m, want, from(s, 1, api.Msg{Kind: api.KindPrepareOK, View: 6, Place: 4}))
}

func TestPrepareOKLeadsToReplies(t *testing.T) {
	s := aPrimary()
	want := changed(s, func(s *api.State) { s.Commit, s.Acks = 4, append(s.Acks, api.Ack{Node: 3, Draw: lo(9), Place: 4}) })
	reply := func(client, number, place int, result api.Result) api.Send {
		return from(s, 7+client, api.Msg{Kind: api.KindReply, View: 6, Place: place, Entry: api.Entry{Client: client, Number: number}, Result: result})
	}
	out := []api.Send{reply(10, 3, 3, api.Result{Code: api.ResWritten, Slot: 8, Value: "c"}), reply(15, 4, 4, api.Result{Code: api.ResCount, Slot: 2})}
	out = append(out, toAll(5, s, api.Msg{Kind: api.KindCommit, View: 6, Commit: 4})...)
	expectHandled(t, "primary", five, s, msgOf(api.KindPrepareOK, 3), want, out...)
}

func TestCommitCarriesOut(t *testing.T) {
	s := aBackup()
	expectHandled(t, "backup", five, s, msgOf(api.KindCommit, 1), changed(s, func(s *api.State) { s.Commit, s.Idle = 3, 0 }))
	expectHandled(t, "of a later view", five, s, msgOf(api.KindCommit, 3), s, from(s, 3, api.Msg{Kind: api.KindGetState, View: 8}))
}

func TestStartViewChangeLeadsToTheView(t *testing.T) {
	s := aBackup()
	want := changed(s, func(s *api.State) {
		s.Status, s.View, s.Idle, s.Marks = api.StatusChange, 7, 0, []api.Mark{{Node: 3, Draw: lo(9)}}
	})
	expectHandled(t, "backup", five, s, msgOf(api.KindStartViewChange, 3), want, toAll(5, s, api.Msg{Kind: api.KindStartViewChange, View: 7})...)
}

func TestDoViewChangeLeadsToStartView(t *testing.T) {
	s := aNextPrimary()
	want := changed(s, func(s *api.State) {
		s.Status, s.Last, s.Idle, s.Log, s.Commit, s.Marks, s.Ballots = api.StatusNormal, 6, 0, logOf(4), 2, nil, nil
	})
	out := toAll(5, s, api.Msg{Kind: api.KindStartView, View: 6, Commit: 2, Log: logOf(4)})
	out = append(out, from(s, 12, api.Msg{Kind: api.KindReply, View: 6, Place: 2, Entry: api.Entry{Client: 5, Number: 2}, Result: api.Result{Code: api.ResTaken, Slot: 7, Value: "a"}}))
	expectHandled(t, "next primary", five, s, msgOf(api.KindDoViewChange, 0), want, out...)
}

// normalIn: the state as one that has taken a log over.
func normalIn(s api.State, view, commit int, log []api.Entry) api.State {
	return api.State{Self: s.Self, Status: api.StatusNormal, View: view, Last: view, Log: log, Commit: commit, Vector: s.Vector}
}

func TestStartViewIsTakenOver(t *testing.T) {
	for name, state := range map[string]func() api.State{"primary": aPrimary, "next primary": aNextPrimary} {
		s := state()
		expectHandled(t, name, five, s, msgOf(api.KindStartView, 3), normalIn(s, 8, 2, logOf(4)), from(s, 3, api.Msg{Kind: api.KindPrepareOK, View: 8, Place: 4}))
	}
}

func TestRecoveryLeadsToAnAnswer(t *testing.T) {
	m := msgOf(api.KindRecovery, 3)
	s := aPrimary()
	want := changed(s, func(s *api.State) { s.Vector = m.Vector })
	expectHandled(t, "primary", five, s, m, want, from(want, 3, api.Msg{Kind: api.KindRecoveryResponse, View: 6, Draw: lo(10), Commit: 2, Log: logOf(5)}))
	s = aBackup()
	want = changed(s, func(s *api.State) { s.Vector = m.Vector })
	expectHandled(t, "backup", five, s, m, want, from(want, 3, api.Msg{Kind: api.KindRecoveryResponse, View: 6, Draw: lo(10)}))
}

func TestRecoveryResponseLeadsToTheReturn(t *testing.T) {
	s := aRecovering()
	expectHandled(t, "recovering", five, s, msgOf(api.KindRecoveryResponse, 2), normalIn(s, 7, 2, logOf(4)), from(s, 2, api.Msg{Kind: api.KindPrepareOK, View: 7, Place: 4}))
}

func TestGetStateLeadsToNewState(t *testing.T) {
	s := aBackup()
	expectHandled(t, "backup", five, s, msgOf(api.KindGetState, 3), s, from(s, 3, api.Msg{Kind: api.KindNewState, View: 6, Commit: 1, Log: logOf(3)}))
}

func TestNewStateIsTakenOver(t *testing.T) {
	s := aBackup()
	expectHandled(t, "backup", five, s, msgOf(api.KindNewState, 3), normalIn(s, 6, 2, logOf(4)), from(s, 1, api.Msg{Kind: api.KindPrepareOK, View: 6, Place: 4}))
}

func TestQueryLeadsToTold(t *testing.T) {
	s := aBackup()
	told := api.Msg{Kind: api.KindTold, View: 6, Commit: 1, Entry: api.Entry{Client: 9, Number: 3}, Result: api.Result{Code: api.ResFound, Slot: 7, Value: "a"}}
	expectHandled(t, "backup", five, s, msgOf(api.KindQuery, 0), s, from(s, 16, told))
}

// What is for clients: nothing changes, whoever it is from, and whatever it says.
func TestReplyAndTold(t *testing.T) {
	r := rand.New(rand.NewPCG(13, 3))
	for name, state := range everyState() {
		for _, c := range []api.Config{five, unguarded(five)} {
			s := state()
			for range 50 {
				for _, k := range []api.Kind{api.KindReply, api.KindTold} {
					expectHandled(t, name, c, s, someMsg(r, c, s, k), s)
				}
			}
			refused := api.Msg{Kind: api.KindReply, Node: 3, View: 1 << 32, Entry: api.Entry{Client: 15, Number: 1<<63 - 1}, Result: api.Result{Code: api.ResRefused}}
			expectHandled(t, name, c, s, refused, s)
		}
	}
}

// variants: a message of that kind by that node as it comes from a life that goes on, from one that is over, to one that is over, and with news of a third.
func variants(k api.Kind, node, self int) []api.Msg {
	l := []api.Msg{msgOf(k, node)}
	if k == api.KindPrepare || k == api.KindCommit || k == api.KindStartView {
		l = append(l, changedMsg(msgOf(k, node), func(m *api.Msg) { m.View += 5 }))
	}
	if k == api.KindStartViewChange || k == api.KindDoViewChange || k == api.KindGetState || k == api.KindNewState || k == api.KindPrepareOK {
		for _, view := range []int{6, 7, 8, 1 << 32} {
			l = append(l, changedMsg(msgOf(k, node), func(m *api.Msg) { m.View = view }))
		}
	}
	if isClients(k) {
		return l
	}
	for _, m := range slices.Clone(l) {
		for i, by := range map[int]uint64{self: 1, (self + 1) % 5: 3, (self + 2) % 5: 5} {
			l = append(l, changedMsg(m, func(m *api.Msg) {
				m.Vector[i].Lo += by
				if k == api.KindRecovery {
					m.Draw = m.Vector[node]
				}
			}))
		}
	}
	return l
}

// Each of the fourteen kinds, in each status, at the primary of its view and at another, by each node, guarded and not: held against the call of the layers below.
func TestEachKindInEachStatus(t *testing.T) {
	for name, state := range everyState() {
		for _, k := range kinds() {
			for _, c := range []api.Config{five, unguarded(five)} {
				s := state()
				for node := range 5 {
					for _, m := range variants(k, node, s.Self) {
						want, out := wantHandled(t, c, s, m)
						r := with(t, c, s)
						if l := handle(t, r, c, m); !samePackets(l, out) {
							t.Fatalf("%s: %+v goes out of %+v", name, decoded(t, c, l), m)
						}
						expectLooks(t, name, r, want)
					}
				}
			}
		}
	}
}

// Runs of calls, from states at random and from the beginning of lives: each call is held against the layers below, and the next goes on from there.
func TestRunsOfCalls(t *testing.T) {
	r := rand.New(rand.NewPCG(13, 4))
	statuses := []api.Status{api.StatusNormal, api.StatusChange, api.StatusRecovering}
	does, met := make(map[api.Kind]int), make(map[api.Kind]map[api.Status]int)
	for _, k := range append(kinds(), ticking) {
		met[k] = make(map[api.Status]int)
	}
	for range 6000 {
		c := pick(r, configs()...)
		made := some(t, r, c)
		s := own(made.State())
		for range 10 {
			m := someCall(r, c, s)
			met[m.Kind][s.Status]++
			var want api.State
			var out, l []api.Packet
			if m.Kind == ticking {
				want, out = wantTicked(t, c, s)
				l = tick(t, made)
			} else {
				want, out = wantHandled(t, c, s, m)
				l = handle(t, made, c, m)
			}
			if !samePackets(l, out) {
				t.Fatalf("%+v goes out, want %+v: %+v at %+v", decoded(t, c, l), decoded(t, c, out), m, s)
			}
			expectLooks(t, "run", made, want)
			if len(l) > 0 || !same(s, want) {
				does[m.Kind]++
			}
			s = own(want)
		}
	}
	for _, k := range append(kinds(), ticking) {
		for _, status := range statuses {
			if met[k][status] < 100 {
				t.Error("too few:", k, status, met[k])
			}
		}
		if does[k] < 100 && k != api.KindReply && k != api.KindTold {
			t.Error("does too little:", k, does)
		}
	}
	if does[api.KindReply]+does[api.KindTold] > 0 {
		t.Error("what is for clients does something:", does)
	}
}
