package history_test

import (
	"math/rand/v2"
	"slices"
	"testing"

	"amnesia/api"
	"amnesia/history"
	"amnesia/message"
)

// What runs of the cluster show: G1 to G5 and G9 of DOC.md by rows alone, and P16.5 to P16.9 of such rows.

// expectGreat: a run in which draws are fresh and packets genuine has no fault, and its replicas have the sequence (G4).
func (p *play) expectGreat() {
	p.t.Helper()
	if got := p.premises(); got.Fresh != -1 || got.Genuine != -1 {
		p.t.Fatal("the run does not keep the premises:", got)
	}
	if wrong := history.Verify(p.setup, p.rows); wrong != nil {
		p.t.Fatal(wrong)
	}
	j := judgedOf(p.t, p.setup, p.rows)
	if j.Fault != -1 {
		p.t.Fatal(j)
	}
	for node := range p.draws {
		if s, _ := p.u.Look(node); s.Commit > len(j.Sequence) || !slices.Equal(s.Log[:s.Commit], j.Sequence[:s.Commit]) {
			p.t.Fatalf("%d has %+v, the sequence is %+v", node, s, j.Sequence)
		}
	}
	p.expectOneLogAView()
}

// expectOneLogAView: G5, as it is worded.
func (p *play) expectOneLogAView() {
	p.t.Helper()
	logs := make(map[int][]api.Entry)
	for _, row := range p.rows {
		m, e := message.Decode(p.setup.Config, row.Packet.Bytes)
		if row.Kind != api.SeenSent || e != api.OK || m.Kind != api.KindStartView {
			continue
		}
		if log, is := logs[m.View]; is && !slices.Equal(log, m.Log) {
			p.t.Fatalf("view %d begins with %+v and with %+v", m.View, log, m.Log)
		}
		logs[m.View] = m.Log
	}
}

func countRows(met map[api.SeenKind]int, rows []api.Seen) {
	for _, row := range rows {
		met[row.Kind]++
	}
}

func TestGreatRuns(t *testing.T) {
	t.Parallel()
	met, premises := make(map[api.SeenKind]int), make(map[bool]int)
	for seed := range uint64(120) {
		p := someRun(t, seeded(100000+seed), 1200)
		p.expectGreat()
		countRows(met, p.rows)
		premises[p.premises().Few < 0]++
	}
	expectEnough(t, met, map[api.SeenKind]int{api.SeenAsked: 1000, api.SeenDone: 1000, api.SeenLead: 100, api.SeenReply: 200, api.SeenDown: 300, api.SeenUp: 300, api.SeenBack: 200, api.SeenTold: 500})
	expectEnough(t, premises, map[bool]int{true: 20, false: 10})
}

// Quiet runs: nobody crashes, everybody is answered.
func TestQuietRuns(t *testing.T) {
	for _, c := range []api.Config{three, five, seven} {
		p := playing(t, setupOf(c, 3))
		for i := range 4 {
			p.do(submit(i%3, pick(seeded(uint64(i)), write(i, "a"), add("b"), read(i), count)), rounds(4), query(i%3, i%3, count), rounds(2))
			if _, is := p.answered(i % 3); !is {
				t.Fatal("no answer")
			}
		}
		p.expectGreat()
		if got := p.premises(); got != premise(-1, -1, -1) {
			t.Fatal(got)
		}
		if j := judgedOf(t, p.setup, p.rows); len(j.Sequence) != 4 {
			t.Fatal(j)
		}
	}
}

// The document's ten examples of the whole, as far as rows tell of them.
func TestExamplesOfTheWhole(t *testing.T) {
	p := playing(t, setupOf(three, 2))
	p.do(submit(0, write(7, "a")), rounds(4), submit(1, write(7, "b")), rounds(4), crash(0), rounds(9), restart(0, api.Draw{Lo: 5}, 0), rounds(2))
	if got := p.premises(); got != premise(-1, -1, -1) {
		t.Fatal(got)
	}
	p.expectGreat()
	expect(t, p.setup, p.rows, -1, nil, entry(0, 1, write(7, "a")), entry(1, 1, write(7, "b")))
	s, _ := p.u.Look(0)
	if s.Status != api.StatusNormal || s.View != 1 || len(s.Log) != 2 {
		t.Fatal(s)
	}
	p.do(crash(0))
	again := len(p.rows)
	p.do(restart(0, api.Draw{Lo: 5}, 0)) // 5.: the draw is no longer fresh
	if got := p.premises(); got != premise(-1, again, -1) {
		t.Fatal(got, again)
	}
	p = playing(t, setupOf(three, 1))
	p.do(crash(1), crash(2)) // 6.
	if got := p.premises(); got != premise(1, -1, -1) {
		t.Fatal(got)
	}
	p = playing(t, setupOf(three, 1))
	p.do(submit(0, write(7, "a")), api.Event{Kind: api.EventSpoil, At: 9, Count: 1}, deliver(0, 0)) // 8.
	if got := p.premises(); got != premise(-1, -1, -1) || len(p.rows) != 5 {
		t.Fatal(got, p.rows)
	}
}

func TestRunsStay(t *testing.T) {
	t.Parallel()
	for seed := range uint64(4) {
		p := someRun(t, seeded(200000+seed), 300)
		expectStays(t, p.setup, p.rows)
		expectOneSequence(t, p.setup, p.rows)
	}
}

func TestRunsAreOfOneSequence(t *testing.T) {
	t.Parallel()
	for seed := range uint64(20) {
		r := seeded(210000 + seed)
		p := someRun(t, r, 600)
		expectOneSequence(t, p.setup, p.rows)
		expectNoPart(t, r, p.setup, p.rows)
	}
}

// P16.8.
func TestFaultsInRunsAreSeen(t *testing.T) {
	t.Parallel()
	met := make(map[string]int)
	for seed := range uint64(8) {
		p := someRun(t, seeded(220000+seed), 500)
		expectSeen(t, p.setup, p.rows, met)
	}
	expectEnough(t, met, map[string]int{"done": 200, "reply": 20, "told": 20, "lead": 5})
}

// Runs that keep nothing: draws come again, and frames are made up. Whatever they show, the judge says what the model says.
func TestRunsWithoutPremises(t *testing.T) {
	t.Parallel()
	met := make(map[error]int)
	premises := make(map[string]int)
	for seed := range uint64(100) {
		r := seeded(230000 + seed)
		c := api.Config{F: pick(r, 1, 1, 2), Room: pick(r, 3, 8), Patience: 6, Unguarded: r.IntN(3) == 0}
		p := playing(t, setupOf(c, 2))
		for p.u.Events() < 400 {
			p.movesBadly(r)
		}
		sequence, fault, why := model(c, p.rows)
		expect(t, p.setup, p.rows, fault, why, sequence...)
		met[why]++
		want := modelPremises(c, p.rows)
		expectPremises(t, c, p.rows, want)
		if want.Fresh >= 0 {
			premises["fresh"]++
		}
		if want.Genuine >= 0 {
			premises["genuine"]++
		}
	}
	expectEnough(t, met, map[error]int{nil: 5, history.ErrUnasked: 5, history.ErrLead: 5})
	expectEnough(t, premises, map[string]int{"fresh": 20, "genuine": 50})
}

// movesBadly: a draw that is used again, a made-up frame, or what else happens.
func (p *play) movesBadly(r *rand.Rand) {
	p.t.Helper()
	node := r.IntN(len(p.draws))
	switch r.IntN(25) {
	case 0:
		if p.mayCrash(r) {
			p.do(crash(node), restart(node, lo(1+r.Uint64N(2)), 0))
		}
	case 1:
		view := r.IntN(6)
		log := []api.Entry{entry(r.IntN(2), 1+r.IntN(2), write(1, "forged"))}
		if i := slices.IndexFunc(p.rows, func(row api.Seen) bool { return row.Kind == api.SeenAsked }); i >= 0 && r.IntN(8) > 0 {
			log[0] = p.rows[i].Entry
		}
		log = log[:r.IntN(2)]
		m := pick(r, api.Msg{Kind: api.KindStartView, Node: (1 + view) % len(p.draws), View: 1 + view, Log: log}, api.Msg{Kind: api.KindPrepareOK, Node: node, View: view, Place: 1},
			api.Msg{Kind: api.KindNewState, Node: node, View: view, Log: log, Commit: len(log)}, api.Msg{Kind: api.KindCommit, Node: view % len(p.draws), View: view, Commit: 1})
		m.Vector = slices.Clone(api.Vector(p.draws))
		p.comes(m.Node, r.IntN(len(p.draws)), frame(p.t, p.setup.Config, m))
	default:
		p.moves(r)
	}
}
