package normal_test

import (
	"math/rand/v2"
	"slices"
	"testing"

	"amnesia/api"
	"amnesia/core"
	"amnesia/message"
	"amnesia/normal"
	"amnesia/oplog"
)

// step: one of the calls at random, of a state that may be: its kind (0: Beat), the state behind it, what goes out.
func step(t *testing.T, r *rand.Rand, c api.Config, s api.State) (api.Msg, api.State, []api.Send) {
	t.Helper()
	if r.IntN(6) == 0 {
		behind, l, e := normal.Beat(c, s)
		if e == api.ErrStatus {
			return api.Msg{}, s, nil
		}
		if e != api.OK {
			t.Fatalf("%d: %+v", e, s)
		}
		return api.Msg{}, behind, l
	}
	m := someMsg(r, c, s, pick(r, kinds()...))
	behind, l := do(t, c, s, m)
	return m, behind, l
}

// P10.6: what is answered may be, and what goes out; with which vector and which view.
func TestWhatIsAnsweredMayBe(t *testing.T) {
	r := rand.New(rand.NewPCG(10, 5))
	out := make(map[api.Kind]int)
	for range 6000 {
		c := pick(r, configs()...)
		s := someState(r, c)
		for range 8 {
			m, behind, l := step(t, r, c, s)
			if e := core.Check(c, behind); e != api.OK || !stateMayBe(c, behind) {
				t.Fatalf("%d: %+v behind %+v at %+v", e, behind, m, s)
			}
			for _, send := range l {
				out[send.Msg.Kind]++
				expectOut(t, c, m, behind, send)
			}
			s = behind
		}
	}
	for _, k := range []api.Kind{api.KindReply, api.KindPrepare, api.KindPrepareOK, api.KindCommit, api.KindGetState, api.KindTold} {
		if out[k] < 200 {
			t.Error("too few:", k, out)
		}
	}
	if len(out) != 6 {
		t.Error("other kinds go out:", out)
	}
}

// expectOut: of one message that goes out behind m.
func expectOut(t *testing.T, c api.Config, m api.Msg, behind api.State, send api.Send) {
	t.Helper()
	k := send.Msg.Kind
	if e := message.Check(c, send.Msg); e != api.OK {
		t.Fatalf("%d: %+v may not be", e, send)
	}
	view, vector := behind.View, behind.Vector
	if isClients(k) {
		vector = nil
	}
	if k == api.KindGetState {
		view = m.View
	}
	if send.Msg.Node != behind.Self || send.Msg.View != view || !slices.Equal(send.Msg.Vector, vector) {
		t.Fatalf("%+v by %+v", send, behind)
	}
	address := send.To >= 0 && send.To < 2*c.F+1 && send.To != behind.Self
	if isClients(k) {
		address = send.To == 7+send.Msg.Entry.Client
	}
	if !address {
		t.Fatalf("%+v by %+v", send, behind)
	}
}

// P10.7: what never changes, and what a primary commits.
func TestWhatNeverChanges(t *testing.T) {
	r := rand.New(rand.NewPCG(10, 6))
	longer, went := 0, 0
	for range 6000 {
		c := pick(r, configs()...)
		s := someState(r, c)
		for range 8 {
			m, behind, _ := step(t, r, c, s)
			if behind.Self != s.Self || behind.View != s.View || behind.Last != s.Last || behind.Status != s.Status {
				t.Fatalf("%+v behind %+v at %+v", behind, m, s)
			}
			more := len(behind.Log) - len(s.Log)
			if !oplog.Begins(s.Log, behind.Log) || more > 1 || behind.Commit < s.Commit {
				t.Fatalf("%+v behind %+v at %+v", behind, m, s)
			}
			if more == 1 && (m.Kind != api.KindRequest && m.Kind != api.KindPrepare || behind.Log[len(s.Log)] != m.Entry) {
				t.Fatalf("%+v behind %+v at %+v", behind, m, s)
			}
			longer += more
			if behind.Commit > s.Commit && s.Self == s.View%(2*c.F+1) {
				went++
				expectAcknowledged(t, c, behind)
			}
			s = behind
		}
	}
	if longer < 300 || went < 300 {
		t.Error("too few:", longer, went)
	}
}

// expectAcknowledged: F others have acknowledged what the primary has just committed, in lives that it does not know to be over.
func expectAcknowledged(t *testing.T, c api.Config, s api.State) {
	t.Helper()
	var nodes []int
	for _, a := range s.Acks {
		if a.Place >= s.Commit && a.Node != s.Self && !below(a.Draw, s.Vector[a.Node]) && !slices.Contains(nodes, a.Node) {
			nodes = append(nodes, a.Node)
		}
	}
	if len(nodes) < c.F {
		t.Fatalf("%v alone have acknowledged: %+v", nodes, s)
	}
}
