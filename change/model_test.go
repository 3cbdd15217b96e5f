package change_test

import (
	"math/rand/v2"
	"slices"
	"testing"

	"amnesia/api"
	"amnesia/change"
	"amnesia/ledger"
)

// The chapter in other words than the program's, and both held against each other at random.

// wantAdmit: chapter 9's words, in their order, of kinds between replicas.
func wantAdmit(c api.Config, s api.State, m api.Msg) (api.State, bool) {
	s = own(s)
	switch {
	case m.Node == s.Self:
		return s, false
	case c.Unguarded:
		return s, true
	case below(m.Vector[m.Node], s.Vector[m.Node]) || below(s.Vector[s.Self], m.Vector[s.Self]):
		return s, false
	}
	for i, d := range m.Vector {
		if below(s.Vector[i], d) {
			s.Vector[i] = d
		}
	}
	s.Acks = slices.DeleteFunc(s.Acks, func(a api.Ack) bool { return below(a.Draw, s.Vector[a.Node]) })
	s.Marks = slices.DeleteFunc(s.Marks, func(m api.Mark) bool { return below(m.Draw, s.Vector[m.Node]) })
	s.Ballots = slices.DeleteFunc(s.Ballots, func(b api.Ballot) bool { return below(b.Draw, s.Vector[b.Node]) })
	s.Answers = slices.DeleteFunc(s.Answers, func(a api.Answer) bool { return below(a.Draw, s.Vector[a.Node]) })
	return s, true
}

// model is a step as the chapter tells it; met has what has happened in it.
type model struct {
	c   api.Config
	s   api.State
	m   api.Msg
	out []api.Send
	met string
}

func modelOf(c api.Config, s api.State, m api.Msg) model {
	w := model{c: c, s: s, m: m}
	w.step()
	return w
}

func (w *model) n() int { return 2*w.c.F + 1 }

func (w *model) isPrimary() bool { return w.s.View%w.n() == w.s.Self }

func (w *model) to(address int, m api.Msg) { w.out = append(w.out, from(w.s, address, m)) }

func (w *model) toAll(m api.Msg) { w.out = append(w.out, toAll(w.n(), w.s, m)...) }

// goTo: all but Self, Last, Log, Commit and Vector is new.
func (w *model) goTo(view int) {
	w.s = api.State{Self: w.s.Self, Status: api.StatusChange, View: view, Last: w.s.Last, Log: w.s.Log, Commit: w.s.Commit, Vector: w.s.Vector}
	w.toAll(calling(view))
}

func (w *model) ballot() {
	if !w.isPrimary() {
		w.to(w.s.View%w.n(), ballotOf(w.s))
	}
}

// normalIn: all but Self and Vector is new.
func (w *model) normalIn(view, commit int, log []api.Entry) {
	w.s = api.State{Self: w.s.Self, Status: api.StatusNormal, View: view, Last: view, Log: slices.Clone(log), Commit: commit, Vector: w.s.Vector}
}

func (w *model) step() {
	admitted := false
	if w.s, admitted = wantAdmit(w.c, w.s, w.m); !admitted {
		w.met = "not admitted"
		return
	}
	switch {
	case w.s.Status == api.StatusRecovering:
		w.met = "recovering"
		return
	case w.m.View < w.s.View:
		w.met = "view below"
		return
	case w.m.View == w.s.View && w.s.Status == api.StatusNormal:
		w.met = "normal in it"
		return
	case w.m.Kind == api.KindStartView:
		w.install()
		return
	case w.m.View > w.s.View:
		w.goTo(w.m.View)
		w.met = "goes along, "
	}
	if w.m.Kind == api.KindStartViewChange {
		w.mark()
	} else {
		w.vote()
	}
}

func (w *model) mark() {
	before := len(w.s.Marks)
	has := slices.ContainsFunc(w.s.Marks, func(m api.Mark) bool { return m.Node == w.m.Node })
	if !has {
		w.s.Marks = append(w.s.Marks, api.Mark{Node: w.m.Node, Draw: w.s.Vector[w.m.Node]})
		slices.SortFunc(w.s.Marks, func(a, b api.Mark) int { return a.Node - b.Node })
	}
	switch {
	case has:
		w.met += "a mark again"
	case before+1 < w.c.F:
		w.met += "too few marks"
	case before+1 > w.c.F:
		w.met += "more marks"
	default:
		w.met += "enough marks"
		if w.isPrimary() {
			w.met += ", the primary"
		}
		w.ballot()
	}
}

func (w *model) vote() {
	if !w.isPrimary() {
		w.met += "not the primary"
		return
	}
	given := api.Ballot{Node: w.m.Node, Draw: w.s.Vector[w.m.Node], Last: w.m.Last, Commit: w.m.Commit, Log: w.m.Log}
	at := slices.IndexFunc(w.s.Ballots, func(b api.Ballot) bool { return b.Node == given.Node })
	if at < 0 {
		w.s.Ballots = append(w.s.Ballots, given)
		slices.SortFunc(w.s.Ballots, func(a, b api.Ballot) int { return a.Node - b.Node })
	} else if old := w.s.Ballots[at]; given.Last > old.Last || given.Last == old.Last && (len(given.Log) > len(old.Log) || len(given.Log) == len(old.Log) && given.Commit > old.Commit) {
		w.s.Ballots[at] = given
	}
	if len(w.s.Ballots) < w.c.F {
		w.met += "too few ballots"
		return
	}
	w.met += "leads"
	all := append([]api.Ballot{{Node: w.s.Self, Last: w.s.Last, Commit: w.s.Commit, Log: w.s.Log}}, w.s.Ballots...)
	greatest := 0
	for _, b := range all {
		greatest = max(greatest, b.Commit)
	}
	slices.SortFunc(all, func(a, b api.Ballot) int { // the best first
		if a.Last != b.Last {
			return b.Last - a.Last
		}
		if len(a.Log) != len(b.Log) {
			return len(b.Log) - len(a.Log)
		}
		return a.Node - b.Node
	})
	chosen := all[0].Log
	before := min(w.s.Commit, len(chosen))
	if before < w.s.Commit {
		w.met += ", short"
	}
	w.normalIn(w.s.View, min(greatest, len(chosen)), chosen)
	w.toAll(starting(w.s.View, w.s.Commit, chosen))
	l := ledger.New()
	for i, e := range chosen[:w.s.Commit] {
		if result := l.Do(e.Op); i >= before {
			w.to(7+e.Client, api.Msg{Kind: api.KindReply, View: w.s.View, Place: i + 1, Entry: api.Entry{Client: e.Client, Number: e.Number}, Result: result})
		}
	}
}

func (w *model) install() {
	w.met = "takes over"
	w.normalIn(w.m.View, min(max(w.s.Commit, w.m.Commit), len(w.m.Log)), w.m.Log)
	if w.s.Commit < len(w.s.Log) {
		w.met = "takes over, acknowledges"
		w.to(w.m.Node, api.Msg{Kind: api.KindPrepareOK, View: w.m.View, Place: len(w.m.Log)})
	}
}

// P11.1: Start, Vote, Install.
func TestByItsWords(t *testing.T) {
	r := rand.New(rand.NewPCG(11, 1))
	met := make(map[api.Kind]map[string]int)
	for _, k := range kinds() {
		met[k] = make(map[string]int)
	}
	for range 60000 {
		c := pick(r, configs()...)
		s := someState(r, c)
		m := someMsg(r, c, s, pick(r, kinds()...))
		checkMsg(t, c, m)
		w := modelOf(c, s, m)
		met[m.Kind][w.met]++
		expect(t, w.met, c, s, m, w.s, w.out...)
	}
	for k, least := range map[api.Kind][]string{
		api.KindStartViewChange: {"not admitted", "recovering", "view below", "normal in it", "a mark again", "too few marks", "more marks", "enough marks", "enough marks, the primary", "goes along, too few marks", "goes along, enough marks", "goes along, enough marks, the primary"},
		api.KindDoViewChange:    {"not admitted", "recovering", "view below", "normal in it", "not the primary", "too few ballots", "leads", "leads, short", "goes along, not the primary", "goes along, too few ballots", "goes along, leads", "goes along, leads, short"},
		api.KindStartView:       {"not admitted", "recovering", "view below", "normal in it", "takes over", "takes over, acknowledges"},
	} {
		for _, what := range least {
			if met[k][what] < 30 {
				t.Error("too few:", k, what, met[k])
			}
		}
	}
}

// P11.1: Suspect and Again.
func TestWithoutAMessageByItsWords(t *testing.T) {
	r := rand.New(rand.NewPCG(11, 2))
	met := make(map[string]int)
	for range 20000 {
		c := pick(r, configs()...)
		s := someState(r, c)
		w := model{c: c, s: own(s)}
		got, l, e := change.Suspect(c, s)
		switch {
		case s.Status == api.StatusRecovering || s.Status == api.StatusNormal && w.isPrimary():
			met["no suspicion"]++
			if e != api.ErrStatus || !isZero(got) || len(l) > 0 {
				t.Fatalf("%v %v %d: %+v", got, l, e, s)
			}
		case s.View == 1<<32:
			met["the last view"]++
			if e != api.OK || !same(got, s) || len(l) > 0 {
				t.Fatalf("%v %v %d: %+v", got, l, e, s)
			}
		default:
			met["suspects"]++
			w.goTo(s.View + 1)
			if e != api.OK || !same(got, w.s) || !sameSends(l, w.out) {
				t.Fatalf("%v %v %d: %+v", got, l, e, s)
			}
		}

		w = model{c: c, s: own(s)}
		l, e = change.Again(c, s)
		if s.Status != api.StatusChange {
			met["not changing"]++
			if e != api.ErrStatus || len(l) > 0 {
				t.Fatalf("%v %d: %+v", l, e, s)
			}
			continue
		}
		w.toAll(calling(s.View))
		met["calls again"]++
		if len(s.Marks) >= c.F {
			met["votes again"]++
			w.ballot()
		}
		if e != api.OK || !sameSends(l, w.out) {
			t.Fatalf("%v %d: %+v", l, e, s)
		}
	}
	for _, what := range []string{"no suspicion", "the last view", "suspects", "not changing", "calls again", "votes again"} {
		if met[what] < 300 {
			t.Error("too few:", what, met)
		}
	}
}
