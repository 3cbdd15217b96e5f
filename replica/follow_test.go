package replica_test

import (
	"math/rand/v2"
	"slices"
	"testing"

	"amnesia/api"
	"amnesia/core"
	"amnesia/message"
	"amnesia/oplog"
)

// P13.3: whatever comes, the state may be, and what goes out decodes and bears the replica's number.
func TestWhatIsAndGoesOutMayBe(t *testing.T) {
	out := make(map[api.Kind]int)
	walk(t, 6, func(c api.Config, s api.State, m api.Msg, behind api.State, l []api.Packet) {
		if e := core.Check(c, behind); e != api.OK || !stateMayBe(c, behind) {
			t.Fatalf("%d: %+v behind %+v at %+v", e, behind, m, s)
		}
		for _, p := range l {
			told, e := message.Decode(c, p.Bytes)
			if e != api.OK || told.Node != s.Self || p.From != s.Self {
				t.Fatalf("%d: %+v, %+v by %+v", e, p, told, behind)
			}
			replicas, clients := p.To >= 0 && p.To < 2*c.F+1 && p.To != s.Self, p.To == 7+told.Entry.Client
			if isClients(told.Kind) && !clients || !isClients(told.Kind) && (!replicas || !slices.Equal(told.Vector, behind.Vector)) {
				t.Fatalf("%+v, %+v by %+v", p, told, behind)
			}
			out[told.Kind]++
		}
	})
	for _, k := range kinds() {
		fromClients := k == api.KindRequest || k == api.KindQuery
		if fromClients != (out[k] == 0) || !fromClients && out[k] < 20 {
			t.Error("too few, or too many:", k, out)
		}
	}
}

// P13.3: what never goes down in a life.
func TestWhatNeverGoesDown(t *testing.T) {
	higher, learnt := 0, 0
	walk(t, 7, func(c api.Config, s api.State, m api.Msg, behind api.State, l []api.Packet) {
		if behind.Self != s.Self || behind.View < s.View || behind.Vector[s.Self] != s.Vector[s.Self] {
			t.Fatalf("%+v behind %+v at %+v", behind, m, s)
		}
		for i, d := range s.Vector {
			if below(behind.Vector[i], d) {
				t.Fatalf("%+v behind %+v at %+v", behind, m, s)
			}
			if below(d, behind.Vector[i]) {
				learnt++
			}
		}
		if behind.View > s.View {
			higher++
		}
	})
	if higher < 1000 || learnt < 1000 {
		t.Error("too few:", higher, learnt)
	}
}

// P13.3: what may be taken back: by a StartView or NewState, or a DoViewChange that makes it lead, whose log lacks it.
func TestWhatMayBeTakenBack(t *testing.T) {
	taken := make(map[api.Kind]int)
	walk(t, 8, func(c api.Config, s api.State, m api.Msg, behind api.State, l []api.Packet) {
		carriedOut := s.Log[:s.Commit]
		if oplog.Begins(carriedOut, behind.Log[:behind.Commit]) {
			return
		}
		taken[m.Kind]++
		switch m.Kind {
		case api.KindStartView, api.KindNewState:
			if oplog.Begins(carriedOut, m.Log) || !slices.Equal(behind.Log, m.Log) {
				t.Fatalf("%+v behind %+v at %+v", behind, m, s)
			}
		case api.KindDoViewChange: // which may lead by a log of an earlier one
			if behind.Status != api.StatusNormal || behind.View%(2*c.F+1) != s.Self || oplog.Begins(carriedOut, behind.Log) {
				t.Fatalf("%+v behind %+v at %+v", behind, m, s)
			}
		default:
			t.Fatalf("%+v behind %+v at %+v", behind, m, s)
		}
	})
	for _, k := range []api.Kind{api.KindStartView, api.KindNewState, api.KindDoViewChange} {
		if taken[k] < 30 {
			t.Error("too few:", k, taken)
		}
	}
}

// P13.4: a recovering replica sends Recovery alone, at its start and at ticks, to all others.
func TestARecoveringReplicaSendsRecoveryAlone(t *testing.T) {
	r := rand.New(rand.NewPCG(13, 9))
	returns, stays := 0, make(map[api.Kind]int)
	for range 1500 {
		c := pick(r, configs()...)
		self, d := r.IntN(2*c.F+1), pick(r, lo(1), lo(3), api.Draw{Hi: 1})
		made, l := again(t, c, self, d)
		expectRecovery := func() {
			t.Helper()
			s := made.State()
			if !samePackets(l, packets(t, c, self, toAll(2*c.F+1, s, api.Msg{Kind: api.KindRecovery, Draw: d})...)) {
				t.Fatalf("%+v goes out of %+v", decoded(t, c, l), s)
			}
		}
		expectRecovery()
		for range 12 {
			m := someCall(r, c, own(made.State()))
			if r.IntN(2) == 0 {
				m = someMsg(r, c, own(made.State()), api.KindRecoveryResponse)
			}
			if m.Kind == ticking {
				l = tick(t, made)
				expectRecovery()
			} else {
				l = handle(t, made, c, m)
			}
			if made.State().Status != api.StatusRecovering {
				returns++
				break
			}
			stays[m.Kind]++
			if m.Kind != ticking && len(l) > 0 {
				t.Fatalf("%+v goes out of %+v", decoded(t, c, l), made.State())
			}
		}
	}
	for _, k := range append(kinds(), ticking) {
		if stays[k] < 100 {
			t.Error("too few:", k, stays)
		}
	}
	if returns < 100 {
		t.Error("too few return:", returns)
	}
}

// P13.2: a replica made by Restart hangs on no earlier one, whatever that has done, and goes on doing.
func TestRestartHangsOnNothing(t *testing.T) {
	r := rand.New(rand.NewPCG(13, 10))
	for range 400 {
		c := pick(r, configs()...)
		earlier := some(t, r, c)
		self := earlier.State().Self
		seed := r.Uint64()
		alone := played(t, c, self, seed, func() {})
		beside := played(t, c, self, seed, func() {
			if m := someCall(r, c, own(earlier.State())); m.Kind == ticking {
				tick(t, earlier)
			} else {
				handle(t, earlier, c, m)
			}
		})
		if alone != beside {
			t.Fatalf("%s and %s", alone, beside)
		}
	}
}

// played: all that is seen of a later life, to which the same comes each time; between its calls something else happens.
func played(t *testing.T, c api.Config, self int, seed uint64, between func()) string {
	t.Helper()
	r := rand.New(rand.NewPCG(13, seed))
	between()
	made, l := again(t, c, self, lo(2))
	seen := dumped(false, l)
	for range 12 {
		between()
		s := made.State()
		seen += dumped(false, s, made.Cells(), made.Rows(), l)
		if m := someCall(r, c, own(s)); m.Kind == ticking {
			l = tick(t, made)
		} else {
			l = handle(t, made, c, m)
		}
	}
	return seen
}
