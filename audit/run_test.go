package audit_test

import (
	"slices"
	"testing"

	"amnesia/api"
	"amnesia/audit"
	"amnesia/cluster"
	"amnesia/history"
	"amnesia/message"
	"amnesia/tree"
)

// Whole runs: P21.3, G8 and G10 of DOC.md, as far as they speak of claims, receipts and forks.

// auditing watches a run from outside: whenever a replica has carried out more, or less, than before, it is heard and gives receipts of what is new, and all that are up are swept.
type auditing struct {
	*play
	*witness
	had      map[int]api.Claim // by node: what it claimed last
	claims   []api.Claim
	receipts []api.Receipt
	swept    []api.Fork
	refused  []api.Errno // what the auditor answered to claims that it did not take
}

func auditingOf(p *play) *auditing {
	a := &auditing{play: p, witness: witnessOf(p.t, p.setup.Config), had: make(map[int]api.Claim)}
	p.watch = a.look
	return a
}

// look: behind an event.
func (a *auditing) look() {
	a.play.t.Helper()
	moved := false
	for _, s := range a.states() {
		k, e := audit.Claim(a.c, s)
		if s.Status == api.StatusRecovering {
			if e != api.ErrStatus {
				a.play.t.Fatal("a recovering replica claims something:", k, e)
			}
			continue
		}
		had, any := a.had[s.Self]
		if any && k == had {
			continue
		}
		moved = true
		a.had[s.Self] = k
		a.claims = append(a.claims, k)
		place := 0
		if k.Size > 0 {
			place = 1 + len(a.claims)%k.Size
			a.receives(s, max(1, min(had.Size, k.Size)), k.Size)
		}
		if e := a.hears(s, place*(len(a.claims)%2)); e != api.OK {
			a.refused = append(a.refused, e)
		}
	}
	if moved {
		forks, e := audit.Sweep(a.c, a.states())
		if e != api.OK {
			a.play.t.Fatal(e)
		}
		a.swept = append(a.swept, forks...)
	}
}

// receives: receipts of some places, which hold, are kept.
func (a *auditing) receives(s api.State, from, to int) {
	a.play.t.Helper()
	for place := from; place <= to; place++ {
		r, e := audit.Receipt(a.c, s, place)
		if e != api.OK || audit.Check(r) != api.OK || audit.Confirm(r, s.Log) != api.OK {
			a.play.t.Fatal(e, place, s)
		}
		a.receipts = append(a.receipts, r)
	}
}

// confirms: by all replicas that have as much now; how many did.
func (a *auditing) confirms() int {
	a.play.t.Helper()
	n := 0
	for _, s := range a.states() {
		for _, r := range a.receipts {
			if s.Commit < r.Claim.Size {
				continue
			}
			if e := audit.Confirm(r, s.Log[:s.Commit]); e != api.OK {
				a.play.t.Fatalf("replica %d does not confirm: %d: %+v", s.Self, e, r)
			}
			expectConfirm(a.play.t, "with what is not carried out behind", r, s.Log, api.OK)
			n++
		}
	}
	return n
}

// answered: each client's answer is that of the receipts of its request; how many were looked at.
func (a *auditing) answered() int {
	a.play.t.Helper()
	n := 0
	for _, row := range a.rows {
		for _, r := range a.receipts {
			if row.Kind == api.SeenReply && row.Entry.Client == r.Entry.Client && row.Entry.Number == r.Entry.Number {
				n++
				if row.Result != r.Result {
					a.play.t.Fatal("a client was answered otherwise:", row, r)
				}
			}
		}
	}
	return n
}

// keeps: the run keeps the premises (b) and (c).
func (a *auditing) keeps() bool {
	a.play.t.Helper()
	premises, e := history.Premises(a.setup.Config, a.rows)
	if e != api.OK {
		a.play.t.Fatal(e)
	}
	return premises.Fresh == -1 && premises.Genuine == -1
}

// expectOne: all claims of the run are of one history, which is the judge's.
func (a *auditing) expectOne() {
	a.play.t.Helper()
	j, e := history.Judge(a.setup, a.rows)
	if e != api.OK || j.Fault != -1 {
		a.play.t.Fatal(e, j)
	}
	if len(a.swept) != 0 || len(a.refused) != 0 || len(a.a.Forks()) != 0 {
		a.play.t.Fatal("a fork is found:", a.swept, a.refused, a.a.Forks())
	}
	for _, k := range a.claims {
		if k.Size > len(j.Sequence) || k.Head != tree.Head(j.Sequence[:k.Size]) {
			a.play.t.Fatal("a claim is not of the sequence:", k, j)
		}
	}
	all := seeded(uint64(len(a.rows))).Perm(len(a.claims)) // once more, in any order, with the paths of the whole sequence
	b := audit.New()
	for _, i := range all {
		k := a.claims[i]
		latest, _ := b.Latest()
		path := bridge(a.play.t, j.Sequence[:max(k.Size, latest.Size)], min(k.Size, latest.Size))
		expectHear(a.play.t, b, k, path, api.OK)
	}
	if b.Heard() != len(a.claims) || len(b.Forks()) != 0 {
		a.play.t.Fatal(b.Heard(), b.Forks())
	}
}

func TestRunsThatKeepThePremises(t *testing.T) {
	t.Parallel()
	met := make(map[string]int)
	for seed := range uint64(120) {
		r := seeded(100000 + seed)
		p := playing(t, api.Config{F: pick(r, 1, 1, 1, 2, 2, 3), Room: pick(r, 3, 20, 60), Patience: 6}, 1+r.IntN(4))
		p.calm, p.most = r.IntN(3) > 0, pick(r, 8, 30, 60)
		a := auditingOf(p)
		for p.u.Events() < 500 {
			p.moves(r)
			if r.IntN(150) == 0 {
				met["confirmed"] += a.confirms()
			}
		}
		p.rounds(20)
		if !a.keeps() {
			t.Fatal("the test's own run breaks the premises")
		}
		a.expectOne()
		met["confirmed"] += a.confirms()
		met["answers"] += a.answered()
		met["claims"] += len(a.claims)
		met["receipts"] += len(a.receipts)
		for _, row := range p.rows {
			switch row.Kind {
			case api.SeenBack:
				met["returns"]++
			case api.SeenLead:
				met["views"]++
			}
		}
	}
	expectEnough(t, met, map[string]int{"confirmed": 5000, "answers": 1000, "claims": 2000, "receipts": 1500, "returns": 50, "views": 50})
}

// A quiet run, by hand: three answers, three receipts, which every replica confirms.
func TestAQuietRun(t *testing.T) {
	p := playing(t, three, 2)
	a := auditingOf(p)
	p.do(submit(0, write(7, "a")))
	p.rounds(4)
	p.do(submit(1, write(7, "b")))
	p.rounds(4)
	p.do(submit(0, read(7)))
	p.rounds(6)
	a.expectOne()
	l := []api.Entry{entry(0, 1, write(7, "a")), entry(1, 1, write(7, "b")), entry(0, 2, read(7))}
	want := []api.Result{res(api.ResWritten, 7, "a"), res(api.ResTaken, 7, "a"), res(api.ResFound, 7, "a")}
	for _, s := range p.states() {
		if k := expectClaim(t, three, s); k != (api.Claim{Node: s.Self, Size: 3, Head: tree.Head(l)}) {
			t.Fatal(k)
		}
		for place := 1; place <= 3; place++ {
			r := expectReceipt(t, three, s, place)
			if r.Entry != l[place-1] || r.Result != want[place-1] {
				t.Fatal(r)
			}
			for _, other := range p.states() {
				expectConfirm(t, "every replica", r, other.Log[:other.Commit], api.OK)
			}
		}
	}
	if n := a.answered(); n < 3 {
		t.Fatal(n)
	}
}

// DOC.md's examples 1 to 4: a claim of an earlier view and one of a later life are of one history.
func TestTheDocumentsExamples(t *testing.T) {
	p := playing(t, three, 2)
	a := auditingOf(p)
	p.do(submit(0, write(7, "a")))
	p.rounds(4)
	p.do(submit(1, write(7, "b")))
	p.rounds(4)
	p.do(crash(0))
	p.rounds(9)
	p.do(restart(0, api.Draw{Lo: 5}, 0))
	if s, on := p.u.Look(0); !on || s.Status != api.StatusRecovering {
		t.Fatal(s, on)
	} else {
		expectNothing(t, three, s, 1, api.ErrStatus)
		expectSweep(t, three, p.states())
	}
	p.rounds(2)
	s, _ := p.u.Look(0)
	if k := expectClaim(t, three, s); k.View != 1 || k.Size != 2 {
		t.Fatal(k)
	}
	a.expectOne()
	a.confirms()
}

// Where a premise is broken histories part, and whoever hears the claims tells so: G8.

// twoLateVotes: replica 1 calls for a view and starts again; its call comes to 2, who sends its ballot, starts again too, and helps to commit an entry, which 1 does not hear of; then the ballot comes to 1.
func twoLateVotes(t *testing.T, c api.Config, draws ...uint64) *auditing {
	t.Helper()
	p := playing(t, c, 2)
	a := auditingOf(p)
	if draws[0] != 0 {
		p.returns(1, api.Draw{Lo: draws[0]})
		p.returns(2, api.Draw{Lo: draws[0]})
	}
	for range c.Patience {
		p.do(tick(1, 0))
	}
	p.returns(1, api.Draw{Lo: draws[1]})
	p.late(1, 2, api.KindStartViewChange)
	p.returns(2, api.Draw{Lo: draws[1]})
	p.do(submit(0, write(7, "a")))
	p.gives(0, api.KindRequest)
	p.gives(2, api.KindPrepare)
	p.gives(0, api.KindPrepareOK)
	p.gives(api.MaxNodes, api.KindReply)
	p.clears()
	p.late(2, 1, api.KindDoViewChange)
	p.do(submit(1, write(7, "b")))
	p.rounds(cluster.Bound(c))
	return a
}

// forged: a StartView of view 3 with an empty log comes to both others.
func forged(t *testing.T) *auditing {
	t.Helper()
	p := playing(t, three, 2)
	a := auditingOf(p)
	p.do(submit(0, write(7, "a")))
	p.rounds(4)
	p.clears()
	b, e := message.Encode(three, api.Msg{Kind: api.KindStartView, Node: 0, View: 3, Vector: make(api.Vector, 3)})
	if e != api.OK {
		t.Fatal(e)
	}
	p.comes(0, 1, b)
	p.comes(0, 2, b)
	p.do(submit(1, write(7, "b")))
	p.rounds(cluster.Bound(three))
	return a
}

func TestARunThatForks(t *testing.T) {
	unguarded := three
	unguarded.Unguarded = true
	lost, other := []api.Entry{entry(0, 1, write(7, "a"))}, []api.Entry{entry(1, 1, write(7, "b"))}
	for name, a := range map[string]*auditing{
		"a draw that is used again": twoLateVotes(t, three, 5, 5),
		"no crash vectors":          twoLateVotes(t, unguarded, 0, 5),
		"a forged message":          forged(t),
	} {
		if j, e := history.Judge(a.setup, a.rows); e != api.OK || j.Fault == -1 {
			t.Fatal(name, "the judge tells no fault:", j, e)
		}
		parted := func(f api.Fork) bool {
			return f.A.Head == tree.Head(lost) && f.B.Head == tree.Head(other) && f.A.Size == 1
		}
		if !slices.ContainsFunc(a.a.Forks(), parted) || !slices.Contains(a.refused, api.ErrFork) {
			t.Fatal(name, "the auditor finds no fork:", a.a.Forks(), a.refused)
		}
		if k, is := a.a.Latest(); !is || k.Head == tree.Head(other) {
			t.Fatal(name, "the latest did not stay:", k)
		}
		wasTold := func(k api.Claim) bool { return slices.Contains(a.claims, k) }
		expectEvidence(t, a.a.Forks(), wasTold)
		expectEvidence(t, a.swept, wasTold)
		a.expectLost(name, lost[0])
	}
}

// expectLost: the receipt of an entry that is lost is not confirmed by those who have as much; of what was answered instead it is.
func (a *auditing) expectLost(name string, lost api.Entry) {
	a.play.t.Helper()
	met := make(map[api.Errno]int)
	for _, r := range a.receipts {
		if r.Entry != lost {
			continue
		}
		expectCheck(a.play.t, name, r, api.OK)
		for _, s := range a.states() {
			if s.Commit >= r.Claim.Size {
				met[audit.Confirm(r, s.Log)]++
			}
		}
	}
	if met[api.ErrReceipt] == 0 {
		a.play.t.Fatal(name, met)
	}
}

// The same with all premises kept: nothing is lost, no fork is found.
func TestTheSameRunsWithoutAFault(t *testing.T) {
	for _, a := range []*auditing{twoLateVotes(t, three, 5, 6), twoLateVotes(t, three, 0, 5)} {
		if !a.keeps() {
			t.Fatal("the test's own run breaks the premises")
		}
		a.expectOne()
		if a.confirms() == 0 || a.answered() == 0 {
			t.Fatal("nothing was looked at")
		}
	}
}

// While a forged log is spread, one replica still has what is lost: Sweep finds the two at one time, the first of the list as A.
func TestSweepFindsTheForkOfARun(t *testing.T) {
	p := playing(t, three, 2)
	p.do(submit(0, write(7, "a")))
	p.rounds(5)
	p.clears()
	b, e := message.Encode(three, api.Msg{Kind: api.KindNewState, Node: 2, View: 0, Log: []api.Entry{entry(1, 1, write(7, "b")), entry(1, 2, count)}, Commit: 2, Vector: make(api.Vector, 3)})
	if e != api.OK {
		t.Fatal(e)
	}
	before := p.states()
	p.comes(2, 1, b)
	s, _ := p.u.Look(1)
	if s.Commit != 2 || before[0].Commit != 1 {
		t.Fatal("the forged log is not taken:", s, before)
	}
	now := p.states()
	expectSweep(t, three, before)
	expectSweep(t, three, now, api.Fork{A: told(now[0], 1), B: told(now[1], 1)}, api.Fork{A: told(now[1], 1), B: told(now[2], 1)})
}

// F + 1 crash at one time, and start again: nobody claims anything but those who are left, and nothing is lost.
func TestMoreThanFewCrash(t *testing.T) {
	for _, c := range []api.Config{three, five} {
		p := playing(t, c, 2)
		a := auditingOf(p)
		p.do(submit(0, write(7, "a")))
		p.rounds(6)
		for node := range c.F + 1 {
			p.do(crash(node))
		}
		for node := range c.F + 1 {
			p.do(restart(node, api.Draw{Lo: 5}, 0))
		}
		p.do(submit(1, write(7, "b")))
		p.rounds(30)
		a.expectOne()
		a.confirms()
		for _, s := range p.states() {
			if s.Self <= c.F {
				expectNothing(t, c, s, 1, api.ErrStatus)
			} else if r := expectReceipt(t, c, s, 1); r.Entry != entry(0, 1, write(7, "a")) {
				t.Fatal(r)
			}
		}
	}
}
