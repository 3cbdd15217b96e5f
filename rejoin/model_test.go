package rejoin_test

import (
	"math/rand/v2"
	"slices"
	"testing"

	"amnesia/api"
	"amnesia/rejoin"
)

// The chapter in other words than the program's, and both held against each other at random.

// wantAdmit: chapter 9's words, in their order, of kinds between replicas.
func wantAdmit(c api.Config, s api.State, m api.Msg) (api.State, bool) {
	s = own(s)
	switch {
	case m.Node == s.Self:
		return s, false
	case c.Unguarded:
		return s, true
	case below(m.Vector[m.Node], s.Vector[m.Node]) || below(s.Vector[s.Self], m.Vector[s.Self]):
		return s, false
	}
	for i, d := range m.Vector {
		if below(s.Vector[i], d) {
			s.Vector[i] = d
		}
	}
	s.Acks = slices.DeleteFunc(s.Acks, func(a api.Ack) bool { return below(a.Draw, s.Vector[a.Node]) })
	s.Marks = slices.DeleteFunc(s.Marks, func(m api.Mark) bool { return below(m.Draw, s.Vector[m.Node]) })
	s.Ballots = slices.DeleteFunc(s.Ballots, func(b api.Ballot) bool { return below(b.Draw, s.Vector[b.Node]) })
	s.Answers = slices.DeleteFunc(s.Answers, func(a api.Answer) bool { return below(a.Draw, s.Vector[a.Node]) })
	return s, true
}

// model is a step as the chapter tells it; met has what has happened in it.
type model struct {
	c   api.Config
	s   api.State
	m   api.Msg
	out []api.Send
	met string
}

func modelOf(c api.Config, s api.State, m api.Msg) model {
	w := model{c: c, s: s, m: m}
	w.step()
	return w
}

func (w *model) n() int { return 2*w.c.F + 1 }

func (w *model) to(address int, m api.Msg) { w.out = append(w.out, from(w.s, address, m)) }

func (w *model) step() {
	admitted := false
	if w.s, admitted = wantAdmit(w.c, w.s, w.m); !admitted {
		w.met = "not admitted"
		return
	}
	switch w.m.Kind {
	case api.KindRecovery:
		w.recovery()
	case api.KindRecoveryResponse:
		w.response()
	case api.KindGetState:
		w.getState()
	case api.KindNewState:
		w.newState()
	}
}

// normalIn: all but Self and Vector is new; what is not committed yet is acknowledged.
func (w *model) normalIn(view, commit int, log []api.Entry) {
	w.s = api.State{Self: w.s.Self, Status: api.StatusNormal, View: view, Last: view, Log: slices.Clone(log), Commit: commit, Vector: w.s.Vector}
	if commit < len(log) {
		w.met += ", acknowledges"
		w.to(view%w.n(), api.Msg{Kind: api.KindPrepareOK, View: view, Place: len(log)})
	}
}

func (w *model) recovery() {
	if w.s.Status != api.StatusNormal {
		w.met = "not normal"
		return
	}
	if w.s.View%w.n() == w.s.Self {
		w.met = "the primary answers"
		w.to(w.m.Node, answering(w.s.View, w.m.Draw, w.s.Commit, w.s.Log))
		return
	}
	w.met = "a backup answers"
	w.to(w.m.Node, answering(w.s.View, w.m.Draw, 0, nil))
}

func (w *model) response() {
	if w.s.Status != api.StatusRecovering {
		w.met = "not recovering"
		return
	}
	if w.m.Draw != w.s.Vector[w.s.Self] {
		w.met = "another draw"
		return
	}
	w.answered()
	greatest := 0
	for _, a := range w.s.Answers {
		greatest = max(greatest, a.View)
	}
	primary := slices.IndexFunc(w.s.Answers, func(a api.Answer) bool { return a.View == greatest && a.Node == greatest%w.n() })
	switch {
	case len(w.s.Answers) <= w.c.F:
		w.met = "too few"
	case primary < 0:
		w.met = "no primary"
	default:
		w.met = "returns"
		a := w.s.Answers[primary]
		w.normalIn(a.View, a.Commit, a.Log)
	}
}

// answered: the message is among the answers, or a greater one of its sender.
func (w *model) answered() {
	given := api.Answer{Node: w.m.Node, Draw: w.s.Vector[w.m.Node], View: w.m.View, Commit: w.m.Commit, Log: w.m.Log}
	at := slices.IndexFunc(w.s.Answers, func(a api.Answer) bool { return a.Node == given.Node })
	if at < 0 {
		w.s.Answers = append(w.s.Answers, given)
		slices.SortFunc(w.s.Answers, func(a, b api.Answer) int { return a.Node - b.Node })
		return
	}
	old := w.s.Answers[at]
	if given.View > old.View || given.View == old.View && (len(given.Log) > len(old.Log) || len(given.Log) == len(old.Log) && given.Commit > old.Commit) {
		w.s.Answers[at] = given
	}
}

func (w *model) getState() {
	switch {
	case w.s.Status != api.StatusNormal:
		w.met = "not normal"
	case w.m.View < w.s.View:
		w.met = "view below"
	case w.m.View > w.s.View:
		w.met = "view above"
	default:
		w.met = "gives"
		w.to(w.m.Node, all(w.s))
	}
}

func (w *model) newState() {
	switch {
	case w.s.Status == api.StatusRecovering:
		w.met = "recovering"
	case w.m.View%w.n() == w.s.Self:
		w.met = "the primary of it"
	case w.m.View < w.s.View:
		w.met = "view below"
	case w.m.View == w.s.View && w.s.Status == api.StatusNormal && len(w.m.Log) <= len(w.s.Log):
		w.met = "not longer"
	default:
		w.met = "takes over"
		commit := min(max(w.s.Commit, w.m.Commit), len(w.m.Log))
		if commit < w.s.Commit {
			w.met = "takes over a short one"
		}
		w.normalIn(w.m.View, commit, w.m.Log)
	}
}

// P12.2 to P12.5.
func TestByItsWords(t *testing.T) {
	r := rand.New(rand.NewPCG(12, 1))
	met := make(map[api.Kind]map[string]int)
	for _, k := range kinds() {
		met[k] = make(map[string]int)
	}
	for range 60000 {
		c := pick(r, configs()...)
		s := someState(r, c)
		m := someMsg(r, c, s, pick(r, kinds()...))
		checkMsg(t, c, m)
		w := modelOf(c, s, m)
		met[m.Kind][w.met]++
		expect(t, w.met, c, s, m, w.s, w.out...)
	}
	for k, least := range map[api.Kind][]string{
		api.KindRecovery:         {"not admitted", "not normal", "the primary answers", "a backup answers"},
		api.KindRecoveryResponse: {"not admitted", "not recovering", "another draw", "too few", "no primary", "returns", "returns, acknowledges"},
		api.KindGetState:         {"not admitted", "not normal", "view below", "view above", "gives"},
		api.KindNewState:         {"not admitted", "recovering", "the primary of it", "view below", "not longer", "takes over", "takes over, acknowledges", "takes over a short one"},
	} {
		for _, what := range least {
			if met[k][what] < 50 {
				t.Error("too few:", k, what, met[k])
			}
		}
	}
}

// P12.1: Ask; what Start makes is looked at one by one.
func TestAskByItsWords(t *testing.T) {
	r := rand.New(rand.NewPCG(12, 2))
	met := make(map[api.Errno]int)
	for range 10000 {
		c := pick(r, configs()...)
		s := someState(r, c)
		got, l, e := rejoin.Ask(c, s)
		met[e]++
		if s.Status != api.StatusRecovering {
			if e != api.ErrStatus || !isZero(got) || len(l) > 0 {
				t.Fatalf("%v %v %d: %+v", got, l, e, s)
			}
			continue
		}
		if e != api.OK || !same(got, s) || !sameSends(l, toAll(2*c.F+1, s, asking(s))) {
			t.Fatalf("%v %v %d: %+v", got, l, e, s)
		}
	}
	if met[api.OK] < 1000 || met[api.ErrStatus] < 1000 {
		t.Error("too few:", met)
	}
}
