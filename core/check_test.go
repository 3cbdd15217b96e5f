package core_test

import (
	"math"
	"math/rand/v2"
	"testing"

	"amnesia/api"
	"amnesia/core"
)

// P9.1: Check.

func expectCheck(t *testing.T, what string, c api.Config, s api.State, want api.Errno) {
	t.Helper()
	if e := core.Check(c, s); e != want {
		t.Errorf("%s: %d, want %d: %+v", what, e, want, s)
	}
	if e := wantCheck(c, s); e != want {
		t.Errorf("%s: by the rules it is %d, not %d: %+v", what, e, want, s)
	}
}

// change is one thing that is changed in a state that may be, and whether it then still may be.
type change struct {
	what string
	with func(*api.State)
	may  bool
}

func expectChanges(t *testing.T, base func() api.State, changes []change) {
	t.Helper()
	expectCheck(t, "unchanged", five, base(), api.OK)
	for _, ch := range changes {
		want := api.ErrState
		if ch.may {
			want = api.OK
		}
		expectCheck(t, ch.what, five, changed(base(), ch.with), want)
	}
}

func TestCheckTakesStatesThatMayBe(t *testing.T) {
	for name, state := range everyState() {
		expectCheck(t, name, five, state(), api.OK)
		expectCheck(t, name+", unguarded", api.Config{F: 2, Room: 6, Patience: 9, Unguarded: true}, state(), api.OK)
	}
	full := api.State{Self: 4, Status: api.StatusNormal, View: 1 << 32, Last: 1 << 32, Log: logOf(256), Commit: 256, Vector: make(api.Vector, 7)}
	for node := range 7 {
		full.Vector[node] = api.Draw{Hi: math.MaxUint64, Lo: math.MaxUint64}
		if node != 4 {
			full.Acks = append(full.Acks, api.Ack{Node: node, Draw: full.Vector[node], Place: 256})
		}
	}
	expectCheck(t, "full", seven, full, api.OK)
	full.Status, full.Last, full.Idle, full.Acks = api.StatusChange, 1<<32-1, 99, nil
	full.Ballots = []api.Ballot{{Node: 0, Draw: full.Vector[0], Last: 1<<32 - 1, Commit: 256, Log: logOf(256)}, {Node: 6, Draw: full.Vector[6], Log: logOf(1)}}
	expectCheck(t, "full, changing", seven, full, api.OK)
	expectCheck(t, "another room", five, full, api.ErrState)
}

// Rule 1 holds of every status.
func TestCheckOfNumbers(t *testing.T) {
	both := []change{
		{"self below 0", func(s *api.State) { s.Self = -1 }, false},
		{"self n", func(s *api.State) { s.Self = 5 }, false},
		{"self far below", func(s *api.State) { s.Self = math.MinInt }, false},
		{"self far above", func(s *api.State) { s.Self = math.MaxInt }, false},
		{"status 0", func(s *api.State) { s.Status = 0 }, false},
		{"status 4", func(s *api.State) { s.Status = 4 }, false},
		{"status below 0", func(s *api.State) { s.Status = -1 }, false},
		{"view below 0", func(s *api.State) { s.View, s.Last = -1, -1 }, false},
		{"view below 0, last 0", func(s *api.State) { s.View, s.Last = -1, 0 }, false},
		{"view too great", func(s *api.State) { s.View = 1<<32 + 5 }, false},
		{"view and last too great", func(s *api.State) { s.View, s.Last = 1<<32+5, 1<<32+5 }, false},
		{"view greatest number", func(s *api.State) { s.View = math.MaxInt }, false},
		{"last below 0", func(s *api.State) { s.Last = -1 }, false},
		{"last above view", func(s *api.State) { s.Last = s.View + 1 }, false},
		{"commit below 0", func(s *api.State) { s.Commit = -1 }, false},
		{"commit above the log", func(s *api.State) { s.Commit = len(s.Log) + 1 }, false},
		{"commit greatest number", func(s *api.State) { s.Commit = math.MaxInt }, false},
		{"vector too short", func(s *api.State) { s.Vector = s.Vector[:4] }, false},
		{"vector too long", func(s *api.State) { s.Vector = append(s.Vector, lo(1)) }, false},
		{"no vector", func(s *api.State) { s.Vector = nil }, false},
		{"idle below 0", func(s *api.State) { s.Idle = -1 }, false},
		{"idle at patience", func(s *api.State) { s.Idle = 9 }, false},
		{"idle greatest number", func(s *api.State) { s.Idle = math.MaxInt }, false},
		{"log too long", func(s *api.State) { s.Log = logOf(7) }, false},
		{"a client that there isn't", func(s *api.State) { s.Log = logOf(1); s.Log[0].Client = 16 }, false},
		{"a number that may not be", func(s *api.State) { s.Log = logOf(1); s.Log[0].Number = 0 }, false},
		{"an operation that is none", func(s *api.State) { s.Log = logOf(1); s.Log[0].Op.Kind = 5 }, false},
		{"a request twice", func(s *api.State) { s.Log = append(logOf(1), logOf(1)...) }, false},
	}
	for _, base := range everyState() {
		expectChanges(t, base, both)
	}
	expectChanges(t, aBackup, []change{
		{"commit 0", func(s *api.State) { s.Commit = 0 }, true},
		{"commit at the log's end", func(s *api.State) { s.Commit = 3 }, true},
		{"idle 0", func(s *api.State) { s.Idle = 0 }, true},
		{"idle one below patience", func(s *api.State) { s.Idle = 8 }, true},
		{"a full log", func(s *api.State) { s.Log = logOf(6) }, true},
		{"no log", func(s *api.State) { s.Log, s.Commit = nil, 0 }, true},
		{"the greatest view", func(s *api.State) { s.View, s.Last = 1<<32, 1<<32 }, true},
		{"the first view", func(s *api.State) { s.View, s.Last = 0, 0 }, true},
		{"the greatest number", func(s *api.State) { s.Log[2].Number = math.MaxInt }, true},
		{"self 0", func(s *api.State) { s.Self = 0 }, true},
		{"self n - 1", func(s *api.State) { s.Self = 4 }, true},
		{"its own entry {0, 0}", func(s *api.State) { s.Vector[2] = api.Draw{} }, true},
	})
}

// Rule 2 of one list of votes: vote is one that may stand there, of that node and draw; put lays them into the state.
func testCheckOfVoters(t *testing.T, what string, base api.State, put func(s *api.State, l []api.Stamp)) {
	t.Helper()
	of := func(nodes ...int) []api.Stamp {
		var l []api.Stamp
		for _, node := range nodes {
			st := api.Stamp{Node: node}
			if node >= 0 && node < len(base.Vector) {
				st.Draw = base.Vector[node]
			}
			l = append(l, st)
		}
		return l
	}
	try := func(how string, want api.Errno, l []api.Stamp) {
		t.Helper()
		s := own(base)
		put(&s, l)
		expectCheck(t, what+" "+how, seven, s, want)
	}
	try("none", api.OK, nil)
	try("rising", api.OK, of(0, 6))
	try("two", api.OK, of(2, 3))
	for _, l := range [][]int{{3, 2}, {6, 0}, {2, 2}, {0, 0}, {-1}, {-1, 3}, {7}, {3, 7}, {1}, {0, 1}, {1, 2}, {math.MinInt}, {math.MaxInt}, {0, math.MaxInt}, {3, math.MinInt}} {
		try("of nodes that may not be", api.ErrState, of(l...))
	}
	for at := range 2 {
		for _, d := range []api.Draw{{}, lo(4), lo(6), {Hi: 1, Lo: 5}, {Hi: 5}} {
			l := of(3, 4)
			l[at].Draw = d
			try("of another life", api.ErrState, l)
		}
	}
}

func TestCheckOfVoters(t *testing.T) {
	base := api.State{Self: 1, Status: api.StatusNormal, View: 8, Last: 8, Log: logOf(2), Vector: los(5, 5, 5, 5, 5, 5, 5)}
	testCheckOfVoters(t, "acks", base, func(s *api.State, l []api.Stamp) {
		for _, v := range l {
			s.Acks = append(s.Acks, api.Ack{Node: v.Node, Draw: v.Draw, Place: 1})
		}
	})
	base.Status, base.Last = api.StatusChange, 7
	testCheckOfVoters(t, "marks", base, func(s *api.State, l []api.Stamp) {
		for _, v := range l {
			s.Marks = append(s.Marks, api.Mark{Node: v.Node, Draw: v.Draw})
		}
	})
	testCheckOfVoters(t, "ballots", base, func(s *api.State, l []api.Stamp) {
		for _, v := range l {
			s.Ballots = append(s.Ballots, api.Ballot{Node: v.Node, Draw: v.Draw, Log: logOf(1)})
		}
	})
	testCheckOfVoters(t, "answers", api.State{Self: 1, Status: api.StatusRecovering, Vector: base.Vector}, func(s *api.State, l []api.Stamp) {
		for _, v := range l {
			s.Answers = append(s.Answers, api.Answer{Node: v.Node, Draw: v.Draw, View: 3})
		}
	})
	// All others may have voted.
	s := api.State{Self: 3, Status: api.StatusChange, View: 9, Vector: make(api.Vector, 7)}
	for _, node := range []int{0, 1, 2, 4, 5, 6} {
		s.Marks = append(s.Marks, api.Mark{Node: node})
	}
	expectCheck(t, "all others", seven, s, api.OK)
}

// Rule 3.
func TestCheckOfNormalOnes(t *testing.T) {
	both := []change{
		{"last below view", func(s *api.State) { s.Last = 5 }, false},
		{"last 0", func(s *api.State) { s.Last = 0 }, false},
		{"a mark", func(s *api.State) { s.Marks = []api.Mark{{Node: 0, Draw: lo(4)}} }, false},
		{"a ballot", func(s *api.State) { s.Ballots = []api.Ballot{{Node: 0, Draw: lo(4)}} }, false},
		{"an answer", func(s *api.State) { s.Answers = []api.Answer{{Node: 0, Draw: lo(4)}} }, false},
		{"empty lists", func(s *api.State) {
			s.Marks, s.Ballots, s.Answers = []api.Mark{}, []api.Ballot{}, []api.Answer{}
		}, true},
	}
	expectChanges(t, aPrimary, append(both,
		change{"idle", func(s *api.State) { s.Idle = 1 }, false},
		change{"no acks", func(s *api.State) { s.Acks = nil }, true},
		change{"an ack of place 0", func(s *api.State) { s.Acks[1].Place = 0 }, false},
		change{"an ack below 0", func(s *api.State) { s.Acks[2].Place = -1 }, false},
		change{"an ack beyond the log", func(s *api.State) { s.Acks[0].Place = 4 }, false},
		change{"the last ack beyond the log", func(s *api.State) { s.Acks[2].Place = 4 }, false},
		change{"an ack at the log's end", func(s *api.State) { s.Acks[0].Place = 3 }, true},
		change{"an ack of place 1", func(s *api.State) { s.Acks[2].Place = 1 }, true},
		change{"acks without a log", func(s *api.State) { s.Log, s.Commit = nil, 0 }, false},
		change{"an ack greatest number", func(s *api.State) { s.Acks[0].Place = math.MaxInt }, false},
		change{"another view's primary", func(s *api.State) { s.View, s.Last = 7, 7 }, false},
		change{"another view's primary, without acks", func(s *api.State) { s.View, s.Last, s.Acks = 7, 7, nil }, true},
		change{"its view after a round", func(s *api.State) { s.View, s.Last = 11, 11 }, true},
	))
	expectChanges(t, aBackup, append(both,
		change{"an ack", func(s *api.State) { s.Acks = []api.Ack{{Node: 0, Draw: lo(4), Place: 1}} }, false},
		change{"empty acks", func(s *api.State) { s.Acks = []api.Ack{} }, true},
		change{"idle as the primary", func(s *api.State) { s.Self = 1 }, false},
	))
}

// Rule 4.
func TestCheckOfChangingOnes(t *testing.T) {
	both := []change{
		{"last at view", func(s *api.State) { s.Last = 6 }, false},
		{"last 0", func(s *api.State) { s.Last = 0 }, true},
		{"last one below view", func(s *api.State) { s.Last = 5 }, true},
		{"view 0", func(s *api.State) { s.View, s.Last, s.Ballots = 0, 0, nil }, false},
		{"an ack", func(s *api.State) { s.Acks = []api.Ack{{Node: 0, Draw: lo(4), Place: 1}} }, false},
		{"an answer", func(s *api.State) { s.Answers = []api.Answer{{Node: 0, Draw: lo(4)}} }, false},
		{"no marks", func(s *api.State) { s.Marks = nil }, true},
		{"no ballots", func(s *api.State) { s.Ballots = nil }, true},
		{"empty lists", func(s *api.State) { s.Acks, s.Answers, s.Ballots = []api.Ack{}, []api.Answer{}, []api.Ballot{} }, true},
	}
	expectChanges(t, aChangingBackup, append(both,
		change{"a ballot", func(s *api.State) { s.Ballots = []api.Ballot{{Node: 0, Draw: lo(4)}} }, false},
	))
	expectChanges(t, aNextPrimary, append(both,
		change{"idle", func(s *api.State) { s.Idle = 8 }, true},
		change{"F ballots", func(s *api.State) {
			s.Ballots = []api.Ballot{{Node: 0, Draw: lo(4)}, {Node: 3, Draw: lo(9)}}
		}, false},
		change{"more than F ballots", func(s *api.State) {
			s.Ballots = []api.Ballot{{Node: 0, Draw: lo(4)}, {Node: 2}, {Node: 3, Draw: lo(9)}}
		}, false},
		change{"a ballot's last 0", func(s *api.State) { s.Ballots[0].Last = 0 }, true},
		change{"a ballot's last below 0", func(s *api.State) { s.Ballots[0].Last = -1 }, false},
		change{"a ballot's last at view", func(s *api.State) { s.Ballots[0].Last = 6 }, false},
		change{"a ballot's last above view", func(s *api.State) { s.Ballots[0].Last = 7 }, false},
		change{"a ballot's last greatest number", func(s *api.State) { s.Ballots[0].Last = math.MaxInt }, false},
		change{"a ballot's commit 0", func(s *api.State) { s.Ballots[0].Commit = 0 }, true},
		change{"a ballot's commit at its log's end", func(s *api.State) { s.Ballots[0].Commit = 2 }, true},
		change{"a ballot's commit beyond its log", func(s *api.State) { s.Ballots[0].Commit = 3 }, false},
		change{"a ballot's commit below 0", func(s *api.State) { s.Ballots[0].Commit = -1 }, false},
		change{"a ballot's full log", func(s *api.State) { s.Ballots[0].Log = logOf(6) }, true},
		change{"a ballot's log too long", func(s *api.State) { s.Ballots[0].Log = logOf(7) }, false},
		change{"a ballot's log that may not be", func(s *api.State) { s.Ballots[0].Log[1].Number = 0 }, false},
		change{"a ballot's request twice", func(s *api.State) { s.Ballots[0].Log[1] = s.Ballots[0].Log[0] }, false},
		change{"another view's primary", func(s *api.State) { s.View = 7 }, false},
		change{"another view's primary, without ballots", func(s *api.State) { s.View, s.Ballots = 7, nil }, true},
	))
	// In a group of three one ballot is F.
	s := api.State{Self: 1, Status: api.StatusChange, View: 1, Vector: los(0, 0, 0)}
	expectCheck(t, "no ballots", three, s, api.OK)
	s.Ballots = []api.Ballot{{Node: 0}}
	expectCheck(t, "as many as F", three, s, api.ErrState)
	// In one of seven each of two is asked.
	s = api.State{Self: 1, Status: api.StatusChange, View: 8, Vector: make(api.Vector, 7)}
	s.Ballots = []api.Ballot{{Node: 0, Last: 7}, {Node: 6, Last: 7}}
	expectCheck(t, "two ballots", seven, s, api.OK)
	for at := range 2 {
		late := own(s)
		late.Ballots[at].Last = 8
		expectCheck(t, "a late ballot", seven, late, api.ErrState)
	}
}

// Rule 5.
func TestCheckOfRecoveringOnes(t *testing.T) {
	expectChanges(t, aRecovering, []change{
		{"view", func(s *api.State) { s.View = 1 }, false},
		{"view and last", func(s *api.State) { s.View, s.Last = 1, 1 }, false},
		{"last", func(s *api.State) { s.Last = 1 }, false},
		{"a log", func(s *api.State) { s.Log = logOf(1) }, false},
		{"a log and a commit", func(s *api.State) { s.Log, s.Commit = logOf(1), 1 }, false},
		{"commit", func(s *api.State) { s.Commit = 1 }, false},
		{"idle", func(s *api.State) { s.Idle = 1 }, false},
		{"an ack", func(s *api.State) { s.Acks = []api.Ack{{Node: 0, Draw: lo(4)}} }, false},
		{"an ack of a place", func(s *api.State) { s.Acks = []api.Ack{{Node: 0, Draw: lo(4), Place: 1}} }, false},
		{"a mark", func(s *api.State) { s.Marks = []api.Mark{{Node: 0, Draw: lo(4)}} }, false},
		{"a ballot", func(s *api.State) { s.Ballots = []api.Ballot{{Node: 0, Draw: lo(4)}} }, false},
		{"empty lists", func(s *api.State) {
			s.Log, s.Acks, s.Marks, s.Ballots = []api.Entry{}, []api.Ack{}, []api.Mark{}, []api.Ballot{}
		}, true},
		{"its own entry {0, 0}", func(s *api.State) { s.Vector[4] = api.Draw{} }, false},
		{"its own entry by the higher half", func(s *api.State) { s.Vector[4] = api.Draw{Hi: 1} }, true},
		{"no answers", func(s *api.State) { s.Answers = nil }, true},
		{"an answer's view 0", func(s *api.State) { s.Answers[2].View = 0 }, true},
		{"an answer's view below 0", func(s *api.State) { s.Answers[2].View = -1 }, false},
		{"an answer's greatest view", func(s *api.State) { s.Answers[0].View = 1 << 32 }, true},
		{"a primary's greatest view", func(s *api.State) { s.Answers[1].View = 1 << 32 }, true}, // 2^32 is 1 modulo 5
		{"an answer's view too great", func(s *api.State) { s.Answers[2].View = 1<<32 + 1 }, false},
		{"a primary's view too great", func(s *api.State) { s.Answers[1].View = 1<<32 + 5 }, false},
		{"a log of one that is not the primary", func(s *api.State) { s.Answers[1].View = 7 }, false},
		{"a log beside no commit of one that is not", func(s *api.State) { s.Answers[0].Log = logOf(1) }, false},
		{"a commit of one that is not", func(s *api.State) { s.Answers[0].Commit = 1 }, false},
		{"a commit beyond its log", func(s *api.State) { s.Answers[1].Commit = 3 }, false},
		{"a commit at its log's end", func(s *api.State) { s.Answers[1].Commit = 2 }, true},
		{"a commit below 0", func(s *api.State) { s.Answers[1].Commit = -1 }, false},
		{"a primary without a log", func(s *api.State) { s.Answers[1].Log, s.Answers[1].Commit = nil, 0 }, true},
		{"a full log", func(s *api.State) { s.Answers[1].Log = logOf(6) }, true},
		{"a log too long", func(s *api.State) { s.Answers[1].Log = logOf(7) }, false},
		{"a log that may not be", func(s *api.State) { s.Answers[1].Log[0].Client = -1 }, false},
		{"a request twice", func(s *api.State) { s.Answers[1].Log[1] = s.Answers[1].Log[0] }, false},
	})
}

// P4 of DOC.md: the configuration ahead of the state, in every call that has both.
func TestConfigAheadOfState(t *testing.T) {
	states := []api.State{{}, aPrimary(), changed(aPrimary(), func(s *api.State) { s.Self = -1 }), {Self: 99, Log: make([]api.Entry, 300)}}
	m, wrong := msgOf(five, api.KindGetState, 0, los(4, 1, 0, 9, 2)), api.Msg{Kind: 99}
	for _, c := range wrongConfigs() {
		for _, s := range states {
			expectErrors(t, c, s, m, 0, api.ErrConfig)
			expectErrors(t, c, s, wrong, -1, api.ErrConfig)
		}
	}
	for _, s := range states {
		if stateMayBe(five, s) {
			continue
		}
		expectErrors(t, five, s, m, 0, api.ErrState)
		expectErrors(t, five, s, wrong, -1, api.ErrState)
	}
}

// expectErrors: every call that takes a state answers that error, and nothing beside it.
func expectErrors(t *testing.T, c api.Config, s api.State, m api.Msg, to int, want api.Errno) {
	t.Helper()
	if e := core.Check(c, s); e != want {
		t.Errorf("Check: %d, want %d", e, want)
	}
	if s, ok, e := core.Admit(c, s, m); e != want || ok || !isZero(s) {
		t.Errorf("Admit: %d, want %d: %v %v", e, want, s, ok)
	}
	if s, ok, e := core.Wait(c, s); e != want || ok || !isZero(s) {
		t.Errorf("Wait: %d, want %d: %v %v", e, want, s, ok)
	}
	if s, l, e := core.Carry(c, s, to); e != want || len(l) > 0 || !isZero(s) {
		t.Errorf("Carry: %d, want %d: %v %v", e, want, s, l)
	}
	if s, e := core.One(c, s, to, m); e != want || !isZero(s) {
		t.Errorf("One: %d, want %d: %v", e, want, s)
	}
	if l, e := core.All(c, s, m); e != want || len(l) > 0 {
		t.Errorf("All: %d, want %d: %v", e, want, l)
	}
}

// States at random, most of them nearly right, against the rules.
func TestCheckByItsWords(t *testing.T) {
	r := rand.New(rand.NewPCG(9, 1))
	met := make(map[api.Errno]int)
	for range 100000 {
		c := pick(r, configs()...)
		s := someState(r, c)
		if r.IntN(20) == 0 {
			c = api.Config{F: pick(r, edges...), Room: pick(r, edges...), Patience: pick(r, edges...)}
		}
		if r.IntN(20) == 0 {
			c = pick(r, configs()...)
		}
		for range r.IntN(3) {
			spoilOne(r, &s)
		}
		want := wantCheck(c, s)
		met[want]++
		if e := core.Check(c, s); e != want {
			t.Fatalf("%d, want %d: %+v %+v", e, want, c, s)
		}
	}
	if met[api.OK] < 20000 || met[api.ErrState] < 20000 || met[api.ErrConfig] < 1000 {
		t.Error("too few of some:", met)
	}
}

// spoilOne changes one thing of a state, mostly by little.
func spoilOne(r *rand.Rand, s *api.State) {
	nudge := func(n *int) { *n = pick(r, *n+1, *n-1, pick(r, edges...)) }
	node, draw := r.IntN(8)-1, someDraw(r)
	if node >= 0 && node < len(s.Vector) && r.IntN(2) == 0 {
		draw = s.Vector[node]
	}
	switch r.IntN(16) {
	case 0:
		nudge(&s.Self)
	case 1:
		s.Status = pick(r, api.StatusNormal, api.StatusChange, api.StatusRecovering, s.Status+1, api.Status(pick(r, edges...)))
	case 2:
		nudge(&s.View)
	case 3:
		nudge(&s.Last)
	case 4:
		nudge(&s.Commit)
	case 5:
		nudge(&s.Idle)
	case 6:
		s.Log = append(s.Log, logOf(1)...)
	case 7:
		if len(s.Vector) > 0 {
			s.Vector[r.IntN(len(s.Vector))] = draw
		}
	case 8:
		s.Vector = append(s.Vector, draw)
	case 9:
		s.Acks = append(s.Acks, api.Ack{Node: node, Draw: draw, Place: r.IntN(3)})
	case 10:
		s.Marks = append(s.Marks, api.Mark{Node: node, Draw: draw})
	case 11:
		s.Ballots = append(s.Ballots, api.Ballot{Node: node, Draw: draw, Last: s.View - r.IntN(2), Log: someLog(r, 4)})
	case 12:
		s.Answers = append(s.Answers, api.Answer{Node: node, Draw: draw, View: someView(r), Log: someLog(r, 1)})
	case 13:
		for i := range s.Acks {
			nudge(pick(r, &s.Acks[i].Node, &s.Acks[i].Place))
		}
	case 14:
		for i := range s.Ballots {
			nudge(pick(r, &s.Ballots[i].Node, &s.Ballots[i].Last, &s.Ballots[i].Commit))
		}
	case 15:
		for i := range s.Answers {
			nudge(pick(r, &s.Answers[i].Node, &s.Answers[i].View, &s.Answers[i].Commit))
		}
	}
}
