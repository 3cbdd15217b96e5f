package linear_test

import (
	"math/rand/v2"
	"slices"
	"testing"

	"amnesia/api"
	"amnesia/cluster"
	"amnesia/engine"
	"amnesia/history"
	"amnesia/linear"
	"amnesia/message"
)

// P18.15, and G10 of DOC.md: a run that keeps the premises (b) and (c) is linearizable, and the judge's sequence is a witness.

var three = api.Config{F: 1, Room: 4, Patience: 6}

// historyOf: the calls of what was seen, which are a history.
func historyOf(t *testing.T, rows []api.Seen) []api.Call {
	t.Helper()
	l, e := linear.Calls(rows)
	if e != api.OK {
		t.Fatal(e)
	}
	if e := linear.Check(l); e != api.OK {
		t.Fatal(e, l)
	}
	return l
}

// sequenceOf: the judge's, of rows that keep the premises.
func sequenceOf(t *testing.T, s api.Setup, rows []api.Seen) []api.Entry {
	t.Helper()
	if premises, e := history.Premises(s.Config, rows); e != api.OK || premises.Fresh != -1 || premises.Genuine != -1 {
		t.Fatal("the test's own run breaks the premises:", premises, e)
	}
	j, e := history.Judge(s, rows)
	if e != api.OK || j.Fault != -1 {
		t.Fatal(e, j.Fault, history.Verify(s, rows))
	}
	return j.Sequence
}

// expectWitness: the sequence gives a history an order that is a witness.
func expectWitness(t *testing.T, l []api.Call, seq []api.Entry) []int {
	t.Helper()
	order, e := linear.Order(l, seq)
	if e != api.OK {
		t.Fatal(e, l, seq)
	}
	expectHolds(t, l, order, -1)
	if want, _ := modelOrder(l, seq); !slices.Equal(order, want) {
		t.Fatal(order, want)
	}
	if len(l) <= api.MaxCalls && !hasWitness(t, l) {
		t.Fatal("Search finds none:", l)
	}
	return order
}

// expectLinear: a run is, and so is it ahead of each of some rows.
func (p *play) expectLinear(r *rand.Rand) ([]api.Call, []int) {
	p.t.Helper()
	l, seq := historyOf(p.t, p.rows), sequenceOf(p.t, p.setup, p.rows)
	order := expectWitness(p.t, l, seq)
	for range 5 {
		row := r.IntN(len(p.rows) + 1)
		ahead := historyOf(p.t, p.rows[:row])
		expectCut(p.t, l, row, ahead...)
		expectWitness(p.t, ahead, sequenceOf(p.t, p.setup, p.rows[:row]))
		expectWitness(p.t, ahead, seq)
	}
	if !slices.ContainsFunc(l, func(c api.Call) bool { return c.Op.Kind == api.OpAppend || c.Op.Kind == api.OpCount }) {
		for slot := range api.MaxSlots {
			if of := modelSlot(l, slot); len(of) > 0 {
				expectSlot(p.t, l, slot, of...)
				expectWitness(p.t, of, seq)
			}
		}
	}
	return l, order
}

// expectSeen: the history is what the clients made and were answered, and nothing else.
func (p *play) expectSeen(l []api.Call) {
	p.t.Helper()
	if want, e := modelCalls(p.rows); e != api.OK || !slices.Equal(l, want) {
		p.t.Fatal(e, l, want)
	}
	if len(l) != p.made {
		p.t.Fatal(len(l), p.made)
	}
	for client := range p.setup.Clients {
		look, _ := p.u.Client(client)
		last := slices.IndexFunc(l, func(c api.Call) bool { return c.Client == client && c.Number == look.Number })
		if last < 0 && look.Number > 0 || last >= 0 && (l[last].Op != look.Op || l[last].Result != look.Result || l[last].End < 0 != look.Waits) {
			p.t.Fatal(client, look, l)
		}
	}
}

// meets counts what a run has.
func meets(met map[string]int, p *play, l []api.Call, order []int) {
	for _, row := range p.rows {
		switch row.Kind {
		case api.SeenDown:
			met["crashes"]++
		case api.SeenBack:
			met["returns"]++
		case api.SeenLead:
			met["views"]++
		case api.SeenReply:
			met["answers"]++
		}
	}
	for _, place := range order {
		if l[place].End < 0 {
			met["done and not answered"]++
		}
	}
	met["not done"] += len(l) - len(order)
	for i := range l {
		if i > 0 && l[i-1].End >= 0 && !linear.Precedes(l[i-1], l[i]) {
			met["at one time"]++
		}
	}
	if !slices.IsSorted(order) {
		met["not as they were asked"]++
	}
}

func TestARunIsLinearizable(t *testing.T) {
	t.Parallel()
	met := make(map[string]int)
	for seed := range uint64(300) {
		r := seeded(200000 + seed)
		p := someRun(t, r, 200+r.IntN(500), pick(r, 5, 8, 30, 100))
		l, order := p.expectLinear(r)
		p.expectSeen(l)
		meets(met, p, l, order)
	}
	expectEnough(t, met, map[string]int{"crashes": 300, "returns": 100, "views": 100, "answers": 800, "done and not answered": 200, "not done": 200, "at one time": 200, "not as they were asked": 50})
}

// Many requests at one time, many crashes, and at last rounds in which all is answered that can be.
func TestALongRunIsLinearizable(t *testing.T) {
	t.Parallel()
	for seed := range uint64(16) {
		r := seeded(210000 + seed)
		p := playing(t, api.Config{F: 1 + r.IntN(2), Room: 256, Patience: 6}, api.MaxClients)
		p.calm, p.most, p.op = true, 200, anyOp
		for p.u.Events() < 1500 {
			p.moves(r)
		}
		p.do(rounds(cluster.Bound(p.setup.Config)))
		l, _ := p.expectLinear(r)
		p.expectSeen(l)
		for client := range api.MaxClients {
			if look, _ := p.u.Client(client); look.Waits && p.away() <= p.setup.Config.F {
				t.Fatal(seed, "client", client, "waits")
			}
		}
	}
}

// A full log refuses: a refused call is not answered, and what is not done may be left out.
func TestAFullLog(t *testing.T) {
	p := playing(t, api.Config{F: 1, Room: 1, Patience: 6}, 2)
	p.do(submit(0, write(7, "a")), rounds(4), submit(1, read(7)), rounds(10))
	l, order := p.expectLinear(seeded(1))
	if len(l) != 2 || l[0].Result != written(7, "a") || l[1] != waits(1, read(7), l[1].Begin) || !slices.Equal(order, []int{0}) {
		t.Fatal(l, order)
	}
}

// DOC.md's examples 1 to 4, as a script.
func TestTheDocumentsExamples(t *testing.T) {
	text := "group 1 4 6\nclient 0\nclient 0\nsubmit 0 write 7 61\nround 4\nsubmit 1 write 7 62\nround 4\ncrash 0\nround 6\nround 3\nrestart 0 0.5\nround 2\nsubmit 0 read 7\nsubmit 1 count\n"
	setup, events, _, e := engine.Parse(text)
	if e != api.OK {
		t.Fatal(e)
	}
	rows, _, e := cluster.Run(setup, events)
	if e != api.OK {
		t.Fatal(e)
	}
	l := historyOf(t, rows)
	if len(l) != 4 || l[0].Result != written(7, "a") || l[1].Result != taken(7, "a") || l[2].End != -1 || l[3].End != -1 {
		t.Fatal(l)
	}
	expectWitness(t, l, sequenceOf(t, setup, rows))
	expectSearch(t, l, 0, 1)
}

// Where a premise is broken a history may have no witness: the answer that tells so is found.

// twoLateVotes: replica 1 calls for a view and starts again; its call comes to 2, who sends its ballot, starts again too, and helps to commit an entry, which 1 does not hear of; then the ballot comes to 1.
func twoLateVotes(t *testing.T, c api.Config, draws ...uint64) *play {
	t.Helper()
	p := playing(t, c, 2)
	if draws[0] != 0 {
		p.returns(1, api.Draw{Lo: draws[0]})
		p.returns(2, api.Draw{Lo: draws[0]})
	}
	for range c.Patience {
		p.do(tick(1, 0))
	}
	p.returns(1, api.Draw{Lo: draws[1]})
	p.late(1, 2, api.KindStartViewChange)
	p.returns(2, api.Draw{Lo: draws[1]})
	p.do(submit(0, write(7, "a")))
	p.gives(0, api.KindRequest)
	p.gives(2, api.KindPrepare)
	p.gives(0, api.KindPrepareOK)
	p.gives(api.MaxNodes, api.KindReply)
	p.clears()
	p.late(2, 1, api.KindDoViewChange)
	p.do(submit(1, write(7, "b")), rounds(cluster.Bound(c)))
	return p
}

// forged: a StartView of view 3 with an empty log comes to both others.
func forged(t *testing.T) *play {
	t.Helper()
	p := playing(t, three, 2)
	p.do(submit(0, write(7, "a")), rounds(4))
	p.clears()
	b, e := message.Encode(three, api.Msg{Kind: api.KindStartView, Node: 0, View: 3, Vector: make(api.Vector, 3)})
	if e != api.OK {
		t.Fatal(e)
	}
	p.comes(0, 1, b)
	p.comes(0, 2, b)
	p.do(submit(1, write(7, "b")), rounds(cluster.Bound(three)))
	return p
}

func TestABrokenPremiseIsSeenFromOutside(t *testing.T) {
	unguarded := three
	unguarded.Unguarded = true
	for name, p := range map[string]*play{
		"a draw that is used again": twoLateVotes(t, three, 5, 5),
		"no crash vectors":          twoLateVotes(t, unguarded, 0, 5),
		"a forged message":          forged(t),
	} {
		l := historyOf(t, p.rows)
		if len(l) != 2 || l[0].Result != written(7, "a") || l[1].Result != written(7, "b") {
			t.Fatal(name, l)
		}
		expectNone(t, l, l[1].End)
		j, _ := history.Judge(p.setup, p.rows)
		if order, e := linear.Order(l, j.Sequence); e == api.OK {
			if at, _ := linear.Holds(l, order); at == -1 {
				t.Fatal(name, order)
			}
		}
	}
	for _, p := range []*play{twoLateVotes(t, three, 5, 6), twoLateVotes(t, three, 0, 5)} {
		l, order := p.expectLinear(seeded(2))
		if len(l) != 2 || l[1].Result != taken(7, "a") || !slices.Equal(order, []int{0, 1}) {
			t.Fatal(l, order)
		}
	}
}
