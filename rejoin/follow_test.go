package rejoin_test

import (
	"math/rand/v2"
	"slices"
	"testing"

	"amnesia/api"
	"amnesia/core"
	"amnesia/message"
	"amnesia/rejoin"
)

// step: one of the calls at random, of a state that may be: its message (of a kind that is none: Start or Ask), the state behind it, what goes out.
func step(t *testing.T, r *rand.Rand, c api.Config, s api.State) (api.Msg, api.State, []api.Send) {
	t.Helper()
	m := someCall(r, c, s)
	behind, l, e := s, []api.Send(nil), api.OK
	switch m.Kind {
	case starting:
		behind, l, e = rejoin.Start(c, s.Self, m.Draw)
	case ticking:
		if behind, l, e = rejoin.Ask(c, s); e == api.ErrStatus {
			return m, s, nil
		}
	default:
		behind, l, e = calls()[m.Kind](c, s, m)
	}
	if e != api.OK {
		t.Fatalf("%d: %+v at %+v", e, m, s)
	}
	return m, behind, l
}

// walk: steps from states at random, each looked at.
func walk(t *testing.T, seed uint64, look func(c api.Config, s api.State, m api.Msg, behind api.State, l []api.Send)) {
	t.Helper()
	r := rand.New(rand.NewPCG(12, seed))
	for range 12000 {
		c := pick(r, configs()...)
		s := someState(r, c)
		for range 4 {
			m, behind, l := step(t, r, c, s)
			look(c, s, m, behind, l)
			s = behind
		}
	}
}

// P12.6: what is answered may be, and what goes out; with which vector.
func TestWhatIsAnsweredMayBe(t *testing.T) {
	out := make(map[api.Kind]int)
	walk(t, 3, func(c api.Config, s api.State, m api.Msg, behind api.State, l []api.Send) {
		if e := core.Check(c, behind); e != api.OK || !stateMayBe(c, behind) {
			t.Fatalf("%d: %+v behind %+v at %+v", e, behind, m, s)
		}
		for _, send := range l {
			out[send.Msg.Kind]++
			if e := message.Check(c, send.Msg); e != api.OK {
				t.Fatalf("%d: %+v may not be", e, send)
			}
			if send.To < 0 || send.To > 2*c.F || send.To == behind.Self || send.Msg.Node != behind.Self || !slices.Equal(send.Msg.Vector, behind.Vector) {
				t.Fatalf("%+v by %+v", send, behind)
			}
		}
	})
	for _, k := range []api.Kind{api.KindRecovery, api.KindRecoveryResponse, api.KindNewState, api.KindPrepareOK} {
		if out[k] < 500 {
			t.Error("too few:", k, out)
		}
	}
	if len(out) != 4 {
		t.Error("other kinds go out:", out)
	}
}

// answersOf: the answers that a recovering replica counts behind m: those that it held from lives that it does not know to be over, and the one that came, to its draw. Of one replica's two the greater stays: both are told.
func answersOf(s api.State, m api.Msg, behind api.State) []api.Answer {
	var l []api.Answer
	for _, a := range s.Answers {
		if a.Draw == behind.Vector[a.Node] {
			l = append(l, a)
		}
	}
	return append(l, api.Answer{Node: m.Node, View: m.View, Commit: m.Commit, Log: m.Log})
}

// P12.7: what a recovering replica sends, and by which answers it returns.
func TestHowARecoveringReplicaReturns(t *testing.T) {
	stays, returns, others := 0, 0, 0
	walk(t, 4, func(c api.Config, s api.State, m api.Msg, behind api.State, l []api.Send) {
		if s.Status != api.StatusRecovering || m.Kind == starting {
			return
		}
		if m.Kind == api.KindRecoveryResponse && m.Draw != s.Vector[s.Self] {
			others++
			admitted, _ := wantAdmit(c, s, m)
			if !same(behind, admitted) || len(l) > 0 {
				t.Fatalf("%+v %+v behind %+v at %+v", behind, l, m, s)
			}
		}
		if behind.Status == api.StatusRecovering {
			stays++
			for _, send := range l {
				if send.Msg.Kind != api.KindRecovery {
					t.Fatalf("%+v by %+v", send, behind)
				}
			}
			return
		}
		returns++
		if behind.Status != api.StatusNormal || m.Kind != api.KindRecoveryResponse || m.Draw != s.Vector[s.Self] {
			t.Fatalf("%+v behind %+v at %+v", behind, m, s)
		}
		expectReturn(t, c, behind, answersOf(s, m, behind))
	})
	if stays < 2000 || returns < 300 || others < 500 {
		t.Error("too few:", stays, returns, others)
	}
}

// expectReturn: F + 1 others have answered, and the log and the commit number are those of the greatest view's primary.
func expectReturn(t *testing.T, c api.Config, behind api.State, answers []api.Answer) {
	t.Helper()
	nodes, greatest := make(map[int]int), 0
	for _, a := range answers {
		nodes[a.Node]++
		greatest = max(greatest, a.View)
	}
	primary := slices.ContainsFunc(answers, func(a api.Answer) bool {
		return a.View == greatest && a.Node == greatest%(2*c.F+1) && a.Commit == behind.Commit && slices.Equal(a.Log, behind.Log)
	})
	if len(nodes) < c.F+1 || nodes[behind.Self] > 0 || behind.View != greatest || behind.Last != greatest || !primary {
		t.Fatalf("%+v by %+v", behind, answers)
	}
}

// P12.8: who answers a Recovery knows that draw from then on.
func TestWhoAnswersKnowsTheDraw(t *testing.T) {
	answered := 0
	r := rand.New(rand.NewPCG(12, 5))
	for range 6000 {
		c := pick(r, configs()...)
		s := someState(r, c)
		m := someMsg(r, c, s, api.KindRecovery)
		s, l := do(t, c, s, m)
		if len(l) == 0 || c.Unguarded {
			continue
		}
		answered++
		if l[0].To != m.Node || l[0].Msg.Draw != m.Draw {
			t.Fatalf("%+v to %+v", l, m)
		}
		for range 8 {
			if below(s.Vector[m.Node], m.Draw) {
				t.Fatalf("%+v does not know %+v", s, m)
			}
			more := someMsg(r, c, s, pick(r, kinds()...))
			s, _ = do(t, c, s, more)
		}
	}
	if answered < 800 {
		t.Error("too few:", answered)
	}
}

// P12.9: what never goes down, and where Commit may fall. (Start is a new life: it has nothing before it.)
func TestWhatNeverGoesDown(t *testing.T) {
	higher, fell := 0, 0
	walk(t, 6, func(c api.Config, s api.State, m api.Msg, behind api.State, l []api.Send) {
		if m.Kind == starting {
			return
		}
		if behind.Self != s.Self || behind.View < s.View || behind.Last < s.Last || behind.Vector[s.Self] != s.Vector[s.Self] {
			t.Fatalf("%+v behind %+v at %+v", behind, m, s)
		}
		for i, d := range s.Vector {
			if below(behind.Vector[i], d) {
				t.Fatalf("%+v behind %+v at %+v", behind, m, s)
			}
		}
		if behind.View > s.View {
			higher++
		}
		if behind.Commit < s.Commit {
			fell++
			if m.Kind != api.KindNewState || len(m.Log) >= s.Commit || behind.Commit != len(m.Log) {
				t.Fatalf("%+v behind %+v at %+v", behind, m, s)
			}
		}
	})
	if higher < 1000 || fell < 200 {
		t.Error("too few:", higher, fell)
	}
}
