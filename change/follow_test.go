package change_test

import (
	"math/rand/v2"
	"slices"
	"testing"

	"amnesia/api"
	"amnesia/change"
	"amnesia/core"
	"amnesia/message"
)

// step: one of the calls at random, of a state that may be: its message (of a kind that is none: Suspect or Again), the state behind it, what goes out.
func step(t *testing.T, r *rand.Rand, c api.Config, s api.State) (api.Msg, api.State, []api.Send) {
	t.Helper()
	m := someCall(r, c, s)
	behind, l, e := s, []api.Send(nil), api.OK
	switch m.Kind {
	case suspecting:
		behind, l, e = change.Suspect(c, s)
	case ticking:
		l, e = change.Again(c, s)
	default:
		behind, l, e = calls()[m.Kind](c, s, m)
	}
	if e == api.ErrStatus && m.Kind < 0 {
		return m, s, nil
	}
	if e != api.OK {
		t.Fatalf("%d: %+v at %+v", e, m, s)
	}
	return m, behind, l
}

// walk: steps from states at random, each looked at.
func walk(t *testing.T, seed uint64, look func(c api.Config, s api.State, m api.Msg, behind api.State, l []api.Send)) {
	t.Helper()
	r := rand.New(rand.NewPCG(11, seed))
	for range 5000 {
		c := pick(r, configs()...)
		s := someState(r, c)
		for range 8 {
			m, behind, l := step(t, r, c, s)
			look(c, s, m, behind, l)
			s = behind
		}
	}
}

// P11.2: what is answered may be, and what goes out; with which vector and which view.
func TestWhatIsAnsweredMayBe(t *testing.T) {
	out := make(map[api.Kind]int)
	walk(t, 3, func(c api.Config, s api.State, m api.Msg, behind api.State, l []api.Send) {
		if e := core.Check(c, behind); e != api.OK || !stateMayBe(c, behind) {
			t.Fatalf("%d: %+v behind %+v at %+v", e, behind, m, s)
		}
		for _, send := range l {
			out[send.Msg.Kind]++
			expectOut(t, c, behind, send)
		}
	})
	for _, k := range []api.Kind{api.KindStartViewChange, api.KindDoViewChange, api.KindStartView, api.KindPrepareOK, api.KindReply} {
		if out[k] < 200 {
			t.Error("too few:", k, out)
		}
	}
	if len(out) != 5 {
		t.Error("other kinds go out:", out)
	}
}

// expectOut: of one message that goes out.
func expectOut(t *testing.T, c api.Config, behind api.State, send api.Send) {
	t.Helper()
	if e := message.Check(c, send.Msg); e != api.OK {
		t.Fatalf("%d: %+v may not be", e, send)
	}
	vector, address := behind.Vector, send.To >= 0 && send.To < 2*c.F+1 && send.To != behind.Self
	if isClients(send.Msg.Kind) {
		vector, address = nil, send.To == 7+send.Msg.Entry.Client
	}
	if send.Msg.Node != behind.Self || send.Msg.View != behind.View || !slices.Equal(send.Msg.Vector, vector) || !address {
		t.Fatalf("%+v by %+v", send, behind)
	}
	primary := send.Msg.Kind == api.KindDoViewChange || send.Msg.Kind == api.KindPrepareOK
	if primary && send.To != behind.View%(2*c.F+1) {
		t.Fatalf("%+v by %+v", send, behind)
	}
}

// P11.3: what never goes down, and what stays.
func TestWhatNeverGoesDown(t *testing.T) {
	higher, begun, stayed := 0, 0, 0
	walk(t, 4, func(c api.Config, s api.State, m api.Msg, behind api.State, l []api.Send) {
		if behind.Self != s.Self || behind.View < s.View || behind.Last < s.Last {
			t.Fatalf("%+v behind %+v at %+v", behind, m, s)
		}
		for i, d := range s.Vector {
			if below(behind.Vector[i], d) {
				t.Fatalf("%+v behind %+v at %+v", behind, m, s)
			}
		}
		if behind.Last > s.Last {
			begun++
			if behind.Status != api.StatusNormal {
				t.Fatalf("%+v behind %+v at %+v", behind, m, s)
			}
		}
		if behind.View > s.View {
			higher++
		}
		if behind.Status == api.StatusChange {
			stayed++
			if behind.Last != s.Last || behind.Commit != s.Commit || !slices.Equal(behind.Log, s.Log) {
				t.Fatalf("%+v behind %+v at %+v", behind, m, s)
			}
		}
	})
	if higher < 1000 || begun < 1000 || stayed < 1000 {
		t.Error("too few:", higher, begun, stayed)
	}
}

// ballotsOf: what a replica that leads behind m has chosen from: its own, those that it held for the view from lives that it does not know to be over, and the one that came.
func ballotsOf(s api.State, m api.Msg, behind api.State) []api.Ballot {
	l := []api.Ballot{{Node: s.Self, Last: s.Last, Commit: s.Commit, Log: s.Log}}
	for _, b := range s.Ballots {
		if m.View == s.View && b.Draw == behind.Vector[b.Node] {
			l = append(l, b)
		}
	}
	return append(l, api.Ballot{Node: m.Node, Last: m.Last, Commit: m.Commit, Log: m.Log})
}

// P11.4: who leads. (Of one replica's two ballots the greater counts: the log that is chosen is compared with both.)
func TestWhoLeads(t *testing.T) {
	leads := 0
	walk(t, 5, func(c api.Config, s api.State, m api.Msg, behind api.State, l []api.Send) {
		if !slices.ContainsFunc(l, func(send api.Send) bool { return send.Msg.Kind == api.KindStartView }) {
			return
		}
		leads++
		all := ballotsOf(s, m, behind)
		latest, longest := 0, 0
		for _, b := range all {
			latest = max(latest, b.Last)
		}
		among := false
		for _, b := range all {
			if b.Last == latest {
				longest = max(longest, len(b.Log))
				among = among || slices.Equal(b.Log, behind.Log)
			}
			if b.Commit <= len(behind.Log) && behind.Commit < b.Commit {
				t.Fatalf("%+v has carried out more: %+v", b, behind)
			}
		}
		if !among || len(behind.Log) != longest {
			t.Fatalf("%+v of %+v", behind, all)
		}
		if behind.Status != api.StatusNormal || behind.Last != behind.View || behind.View%(2*c.F+1) != behind.Self {
			t.Fatalf("%+v leads", behind)
		}
		for _, send := range l {
			if send.Msg.Kind == api.KindStartView && (!slices.Equal(send.Msg.Log, behind.Log) || send.Msg.Commit != behind.Commit) {
				t.Fatalf("%+v by %+v", send, behind)
			}
		}
	})
	if leads < 500 {
		t.Error("too few:", leads)
	}
}

// sentKinds: how many of each kind go out.
func sentKinds(l []api.Send) map[api.Kind]int {
	sent := make(map[api.Kind]int)
	for _, send := range l {
		sent[send.Msg.Kind]++
	}
	return sent
}

// P11.5: how many marks and ballots there are when a ballot and StartView go out, and that the same message brings neither twice.
func TestWithHowManyVotes(t *testing.T) {
	ballots, starts := 0, 0
	walk(t, 6, func(c api.Config, s api.State, m api.Msg, behind api.State, l []api.Send) {
		sent := sentKinds(l)
		if sent[api.KindDoViewChange] > 0 {
			ballots++
			if sent[api.KindDoViewChange] != 1 || len(behind.Marks) < c.F || m.Kind != ticking && len(behind.Marks) != c.F {
				t.Fatalf("%+v by %+v", l, behind)
			}
		}
		if sent[api.KindStartView] > 0 {
			starts++
			voters := make(map[int]int)
			for _, b := range ballotsOf(s, m, behind)[1:] {
				voters[b.Node]++
			}
			if sent[api.KindStartView] != 2*c.F || len(voters) != c.F || m.Kind != api.KindDoViewChange {
				t.Fatalf("%v vote, %+v by %+v", voters, l, behind)
			}
		}
		if m.Kind < 0 {
			return
		}
		again, more := do(t, c, behind, m)
		if sent = sentKinds(more); sent[api.KindDoViewChange]+sent[api.KindStartView] > 0 {
			t.Fatalf("%+v again: %+v at %+v", m, more, behind)
		}
		if !same(again, behind) || len(more) > 0 {
			t.Fatalf("%+v again: %+v %+v at %+v", m, again, more, behind)
		}
	})
	if ballots < 500 || starts < 500 {
		t.Error("too few:", ballots, starts)
	}
}
