package replica_test

import (
	"math"
	"math/rand/v2"
	"slices"
	"testing"

	"amnesia/api"
	"amnesia/core"
	"amnesia/rejoin"
	"amnesia/replica"
)

// New, Restart and From, and what there is beside their errors; replicas that none of them made.

func expectNone(t *testing.T, what string, r *replica.Replica, l []api.Packet, e, want api.Errno) {
	t.Helper()
	if e != want || e == api.OK || r != nil || len(l) > 0 {
		t.Fatalf("%s: %v %v %d, want %d", what, r, l, e, want)
	}
}

func TestNew(t *testing.T) {
	for _, c := range configs() {
		for self := range 2*c.F + 1 {
			s, _ := core.First(c, self)
			expectLooks(t, "first", first(t, c, self), s)
			expectLooks(t, "first", first(t, c, self), api.State{Self: self, Status: api.StatusNormal, Vector: make(api.Vector, 2*c.F+1)})
		}
	}
}

func TestRestart(t *testing.T) {
	for _, c := range configs() {
		for self := range 2*c.F + 1 {
			for _, d := range []api.Draw{lo(1), lo(math.MaxUint64), {Hi: 1}, {Hi: math.MaxUint64, Lo: math.MaxUint64}} {
				r, l := again(t, c, self, d)
				s, sends, _ := rejoin.Start(c, self, d)
				want := api.State{Self: self, Status: api.StatusRecovering, Vector: make(api.Vector, 2*c.F+1)}
				want.Vector[self] = d
				expectLooks(t, "again", r, s)
				expectLooks(t, "again", r, want)
				recovery := toAll(2*c.F+1, want, api.Msg{Kind: api.KindRecovery, Draw: d})
				if !samePackets(l, packets(t, c, self, sends...)) || !samePackets(l, packets(t, c, self, recovery...)) {
					t.Fatal(decoded(t, c, l))
				}
			}
		}
	}
}

func TestFrom(t *testing.T) {
	for name, state := range everyState() {
		expectLooks(t, name, with(t, five, state()), state())
		expectLooks(t, name+", unguarded", with(t, unguarded(five), state()), state())
	}
	r := rand.New(rand.NewPCG(13, 1))
	for range 3000 {
		c := pick(r, configs()...)
		s := someState(r, c)
		expectLooks(t, "some", with(t, c, s), s)
	}
}

// A first life that From makes is New's, and a later one Restart's, from then on too.
func TestFromIsNewAndRestart(t *testing.T) {
	firstState, _ := core.First(five, 3)
	laterState, _ := core.Reborn(five, 3, lo(8))
	later, _ := again(t, five, 3, lo(8))
	for _, both := range [][2]*replica.Replica{{first(t, five, 3), with(t, five, firstState)}, {later, with(t, five, laterState)}} {
		r := rand.New(rand.NewPCG(13, 2))
		for range 200 {
			if r.IntN(3) == 0 {
				if !samePackets(tick(t, both[0]), tick(t, both[1])) {
					t.Fatal(both[0].State(), both[1].State())
				}
				continue
			}
			m := someMsg(r, five, both[0].State(), pick(r, kinds()...))
			if !samePackets(handle(t, both[0], five, m), handle(t, both[1], five, m)) {
				t.Fatal(both[0].State(), both[1].State())
			}
			expectLooks(t, "both", both[0], both[1].State())
		}
	}
}

// P4 of DOC.md: a configuration is looked at first.
func TestErrorsOfNewAndRestart(t *testing.T) {
	for _, c := range wrongConfigs() {
		for _, self := range []int{0, 1, -1, 7, math.MinInt, math.MaxInt} {
			r, e := replica.New(c, self)
			expectNone(t, "configuration", r, nil, e, api.ErrConfig)
			for _, d := range []api.Draw{lo(5), {}} {
				r, l, e := replica.Restart(c, self, d)
				expectNone(t, "configuration", r, l, e, api.ErrConfig)
			}
		}
	}
	for _, c := range configs() {
		n := 2*c.F + 1
		for _, self := range append(slices.Clone(edges), n, n+1) {
			if self >= 0 && self < n {
				continue
			}
			r, e := replica.New(c, self)
			expectNone(t, "self", r, nil, e, api.ErrArg)
			r, l, e := replica.Restart(c, self, lo(5))
			expectNone(t, "self", r, l, e, api.ErrArg)
		}
		for self := range n {
			r, l, e := replica.Restart(c, self, api.Draw{})
			expectNone(t, "draw", r, l, e, api.ErrArg)
		}
	}
}

// wrongStates: states that may not be in a group of five, each for one reason.
func wrongStates() []api.State {
	return []api.State{
		{},
		changed(aPrimary(), func(s *api.State) { s.Self = 5 }),
		changed(aPrimary(), func(s *api.State) { s.Self = -1 }),
		changed(aPrimary(), func(s *api.State) { s.Self = 2 }), // a backup has no acknowledgements
		changed(aPrimary(), func(s *api.State) { s.Status = 0 }),
		changed(aPrimary(), func(s *api.State) { s.Status = 4 }),
		changed(aPrimary(), func(s *api.State) { s.View, s.Last = -5, -5 }),
		changed(aPrimary(), func(s *api.State) { s.View, s.Last = 1<<32+5, 1<<32+5 }),
		changed(aPrimary(), func(s *api.State) { s.Last = 5 }),
		changed(aPrimary(), func(s *api.State) { s.Log = logOf(7) }),
		changed(aPrimary(), func(s *api.State) { s.Log[4] = s.Log[0] }),
		changed(aPrimary(), func(s *api.State) { s.Log[4].Op.Kind = 9 }),
		changed(aPrimary(), func(s *api.State) { s.Commit = 6 }),
		changed(aPrimary(), func(s *api.State) { s.Commit = -1 }),
		changed(aPrimary(), func(s *api.State) { s.Vector = s.Vector[:4] }),
		changed(aPrimary(), func(s *api.State) { s.Vector = nil }),
		changed(aPrimary(), func(s *api.State) { s.Idle = 1 }),
		changed(aPrimary(), func(s *api.State) { s.Acks[0].Place = 6 }),
		changed(aPrimary(), func(s *api.State) { s.Marks = []api.Mark{{Node: 2}} }),
		changed(aBackup(), func(s *api.State) { s.Idle = 9 }),
		changed(aBackup(), func(s *api.State) { s.Idle = -1 }),
		changed(aChangingBackup(), func(s *api.State) { s.Last = 6 }),
		changed(aChangingBackup(), func(s *api.State) { s.Marks[1].Draw = lo(2) }),
		changed(aNextPrimary(), func(s *api.State) { s.Ballots[0].Last = 6 }),
		changed(aNextPrimary(), func(s *api.State) { s.Ballots = append(s.Ballots, api.Ballot{Node: 4, Draw: lo(2)}) }),
		changed(aRecovering(), func(s *api.State) { s.Log = logOf(1) }),
		changed(aRecovering(), func(s *api.State) { s.View = 1 }),
		changed(aRecovering(), func(s *api.State) { s.Idle = 1 }),
		changed(aRecovering(), func(s *api.State) { s.Vector[4] = api.Draw{} }),
		changed(aRecovering(), func(s *api.State) { s.Answers[0].Log = logOf(1) }), // it is not its view's primary
		changed(aRecovering(), func(s *api.State) { s.Answers[1].Commit = 3 }),
	}
}

func TestErrorsOfFrom(t *testing.T) {
	for _, c := range wrongConfigs() {
		r, e := replica.From(c, api.State{})
		expectNone(t, "configuration and state", r, nil, e, api.ErrConfig)
		for name, state := range everyState() {
			r, e := replica.From(c, state())
			expectNone(t, name+", configuration", r, nil, e, api.ErrConfig)
		}
	}
	for _, s := range wrongStates() {
		r, e := replica.From(five, s)
		expectNone(t, "state", r, nil, e, api.ErrState)
		r, e = replica.From(unguarded(five), s)
		expectNone(t, "state, unguarded", r, nil, e, api.ErrState)
	}
	for name, state := range everyState() { // of another group
		r, e := replica.From(three, state())
		expectNone(t, name, r, nil, e, api.ErrState)
	}
	huge := api.State{Log: make([]api.Entry, 100000), Vector: make(api.Vector, 100000), Acks: make([]api.Ack, 100000)}
	r, e := replica.From(five, huge)
	expectNone(t, "huge", r, nil, e, api.ErrState)
}

// A replica that no call made, nil or zero: nothing is to be seen of it, whatever comes.
func TestNotMade(t *testing.T) {
	var frames [][]byte
	for _, k := range kinds() {
		frames = append(frames, frame(t, five, msgOf(k, 3)))
	}
	frames = append(frames, nil, []byte{}, []byte("no frame"), make([]byte, 100000))
	for name, r := range map[string]*replica.Replica{"nil": nil, "zero": {}, "new": new(replica.Replica)} {
		for range 3 {
			for _, b := range frames {
				if l, e := r.Handle(b); e != api.ErrMade || len(l) > 0 {
					t.Fatal(name, l, e)
				}
			}
			if l, e := r.Tick(); e != api.ErrMade || len(l) > 0 {
				t.Fatal(name, l, e)
			}
			if s := r.State(); !isZero(own(s)) {
				t.Fatal(name, s)
			}
			if cells, rows := r.Cells(), r.Rows(); len(cells)+len(rows) > 0 {
				t.Fatal(name, cells, rows)
			}
		}
	}
}
