package normal_test

import (
	"math/rand/v2"
	"slices"
	"testing"

	"amnesia/api"
	"amnesia/ledger"
	"amnesia/normal"
)

// The chapter in other words than the program's, and both held against each other at random.

// wantAdmit: chapter 9's words, in their order.
func wantAdmit(c api.Config, s api.State, m api.Msg) (api.State, bool) {
	s = own(s)
	switch {
	case isClients(m.Kind):
		return s, true
	case m.Node == s.Self:
		return s, false
	case c.Unguarded:
		return s, true
	case below(m.Vector[m.Node], s.Vector[m.Node]) || below(s.Vector[s.Self], m.Vector[s.Self]):
		return s, false
	}
	for i, d := range m.Vector {
		if below(s.Vector[i], d) {
			s.Vector[i] = d
		}
	}
	s.Acks = slices.DeleteFunc(s.Acks, func(a api.Ack) bool { return below(a.Draw, s.Vector[a.Node]) })
	s.Marks = slices.DeleteFunc(s.Marks, func(m api.Mark) bool { return below(m.Draw, s.Vector[m.Node]) })
	s.Ballots = slices.DeleteFunc(s.Ballots, func(b api.Ballot) bool { return below(b.Draw, s.Vector[b.Node]) })
	s.Answers = slices.DeleteFunc(s.Answers, func(a api.Answer) bool { return below(a.Draw, s.Vector[a.Node]) })
	return s, true
}

// model is a step as the chapter tells it; met has what has happened in it.
type model struct {
	c   api.Config
	s   api.State
	m   api.Msg
	out []api.Send
	met string
}

func (w *model) leads() bool {
	return w.s.Status == api.StatusNormal && w.s.View%(2*w.c.F+1) == w.s.Self
}

func (w *model) to(address int, m api.Msg) { w.out = append(w.out, from(w.s, address, m)) }

func (w *model) toAll(m api.Msg) { w.out = append(w.out, toAll(2*w.c.F+1, w.s, m)...) }

func (w *model) results() []api.Result {
	l, results := ledger.New(), []api.Result(nil)
	for _, e := range w.s.Log {
		results = append(results, l.Do(e.Op))
	}
	return results
}

// upTo: the commit number goes up, one by one.
func (w *model) upTo(k int) {
	for w.s.Commit < k {
		e := w.s.Log[w.s.Commit]
		w.s.Commit++
		if w.leads() {
			w.to(7+e.Client, api.Msg{Kind: api.KindReply, View: w.s.View, Place: w.s.Commit, Entry: api.Entry{Client: e.Client, Number: e.Number}, Result: w.results()[w.s.Commit-1]})
		}
	}
}

// step: all five kinds, behind admission.
func (w *model) step() {
	admitted := false
	if w.s, admitted = wantAdmit(w.c, w.s, w.m); !admitted {
		w.met = "not admitted"
		return
	}
	if w.s.Status == api.StatusRecovering {
		w.met = "recovering"
		return
	}
	switch w.m.Kind {
	case api.KindRequest:
		w.request()
	case api.KindPrepareOK:
		w.prepareOK()
	case api.KindQuery:
		w.query()
	default:
		w.fromPrimary()
	}
}

func (w *model) request() {
	if !w.leads() {
		w.met = "does not lead"
		return
	}
	e, at := w.m.Entry, 0
	for i, other := range w.s.Log {
		if other.Client == e.Client {
			at = i + 1
		}
	}
	name := api.Entry{Client: e.Client, Number: e.Number}
	switch {
	case at > 0 && w.s.Log[at-1].Number > e.Number:
		w.met = "old"
	case at > w.s.Commit && w.s.Log[at-1].Number == e.Number:
		w.met = "pending"
	case at > 0 && w.s.Log[at-1].Number == e.Number:
		w.met = "done"
		w.to(7+e.Client, api.Msg{Kind: api.KindReply, View: w.s.View, Place: at, Entry: name, Result: w.results()[at-1]})
	case len(w.s.Log) == w.c.Room:
		w.met = "refused"
		w.to(7+e.Client, api.Msg{Kind: api.KindReply, View: w.s.View, Entry: name, Result: api.Result{Code: api.ResRefused}})
	default:
		w.met = "fresh"
		w.s.Log = append(w.s.Log, e)
		w.toAll(api.Msg{Kind: api.KindPrepare, View: w.s.View, Entry: e, Place: len(w.s.Log), Commit: w.s.Commit})
	}
}

// fromPrimary: Prepare and Commit.
func (w *model) fromPrimary() {
	m := w.m
	switch {
	case m.View < w.s.View:
		w.met = "view below"
		return
	case m.View > w.s.View:
		w.met = "view above"
		w.to(m.Node, getState(m.View))
		return
	case w.s.Status == api.StatusChange:
		w.met = "changing"
		w.to(m.Node, getState(m.View))
		return
	}
	w.s.Idle = 0
	if m.Kind == api.KindCommit {
		w.upTo(min(m.Commit, len(w.s.Log)))
		w.met = "within"
		if m.Commit > len(w.s.Log) {
			w.met = "beyond"
			w.to(m.Node, getState(w.s.View))
		}
		return
	}
	if m.Place == len(w.s.Log)+1 {
		for _, other := range w.s.Log {
			if other.Client == m.Entry.Client && other.Number >= m.Entry.Number {
				w.met = "append refuses"
				return
			}
		}
		w.s.Log = append(w.s.Log, m.Entry)
		w.met = "next"
	}
	w.upTo(min(m.Commit, len(w.s.Log)))
	if m.Place > len(w.s.Log) {
		w.met = "gap"
		w.to(m.Node, getState(w.s.View))
		return
	}
	if w.met == "" {
		w.met = "again"
	}
	w.to(m.Node, api.Msg{Kind: api.KindPrepareOK, View: w.s.View, Place: len(w.s.Log)})
}

func (w *model) prepareOK() {
	m := w.m
	if !w.leads() || m.View != w.s.View || m.Place < 1 || m.Place > len(w.s.Log) {
		w.met = "not counted"
		return
	}
	places := make(map[int]int)
	for _, a := range w.s.Acks {
		places[a.Node] = a.Place
	}
	places[m.Node] = max(places[m.Node], m.Place)
	w.s.Acks = nil
	for node := range 7 {
		if place, has := places[node]; has {
			w.s.Acks = append(w.s.Acks, api.Ack{Node: node, Draw: w.s.Vector[node], Place: place})
		}
	}
	w.met = "counted"
	for k := len(w.s.Log); k > w.s.Commit; k-- {
		reached := 0
		for _, a := range w.s.Acks {
			if a.Place >= k {
				reached++
			}
		}
		if reached >= w.c.F {
			w.met = "committed"
			w.upTo(k)
			w.toAll(api.Msg{Kind: api.KindCommit, View: w.s.View, Commit: k})
			return
		}
	}
}

func (w *model) query() {
	if w.s.Status != api.StatusNormal || w.m.Place > w.s.Commit {
		w.met = "not told"
		return
	}
	l := ledger.New()
	for _, e := range w.s.Log[:w.s.Commit] {
		l.Do(e.Op)
	}
	w.met = "told"
	w.to(7+w.m.Entry.Client, api.Msg{Kind: api.KindTold, View: w.s.View, Commit: w.s.Commit, Entry: api.Entry{Client: w.m.Entry.Client, Number: w.m.Entry.Number}, Result: l.Do(w.m.Entry.Op)})
}

// P10.1 to P10.4, P10.12.
func TestByItsWords(t *testing.T) {
	r := rand.New(rand.NewPCG(10, 1))
	met := make(map[api.Kind]map[string]int)
	for _, k := range kinds() {
		met[k] = make(map[string]int)
	}
	for range 40000 {
		c := pick(r, configs()...)
		s := someState(r, c)
		m := someMsg(r, c, s, pick(r, kinds()...))
		checkMsg(t, c, m)
		w := model{c: c, s: s, m: m}
		w.step()
		met[m.Kind][w.met]++
		expect(t, w.met, c, s, m, w.s, w.out...)
	}
	for k, least := range map[api.Kind][]string{
		api.KindRequest:   {"recovering", "does not lead", "old", "pending", "done", "refused", "fresh"},
		api.KindPrepare:   {"not admitted", "recovering", "view below", "view above", "changing", "append refuses", "next", "gap", "again"},
		api.KindPrepareOK: {"not admitted", "recovering", "not counted", "counted", "committed"},
		api.KindCommit:    {"not admitted", "recovering", "view below", "view above", "changing", "within", "beyond"},
		api.KindQuery:     {"recovering", "not told", "told"},
	} {
		for _, what := range least {
			if met[k][what] < 50 {
				t.Error("too few:", k, what, met[k])
			}
		}
	}
}

func wantBeat(c api.Config, s api.State) []api.Send {
	l := toAll(2*c.F+1, s, api.Msg{Kind: api.KindCommit, View: s.View, Commit: s.Commit})
	for to := range 2*c.F + 1 {
		for i, e := range s.Log {
			has := i < s.Commit || to == s.Self
			for _, a := range s.Acks {
				has = has || a.Node == to && a.Place > i
			}
			if !has {
				l = append(l, from(s, to, api.Msg{Kind: api.KindPrepare, View: s.View, Entry: e, Place: i + 1, Commit: s.Commit}))
			}
		}
	}
	return l
}

// P10.5.
func TestBeatByItsWords(t *testing.T) {
	r := rand.New(rand.NewPCG(10, 2))
	beats, more := 0, 0
	for range 20000 {
		c := pick(r, configs()...)
		s := someState(r, c)
		got, l, e := normal.Beat(c, s)
		if s.Status != api.StatusNormal || s.View%(2*c.F+1) != s.Self {
			if e != api.ErrStatus || !isZero(got) || len(l) > 0 {
				t.Fatalf("%v %v %d: %+v", got, l, e, s)
			}
			continue
		}
		beats++
		if len(l) > 2*c.F {
			more++
		}
		if e != api.OK || !same(got, s) || !sameSends(l, wantBeat(c, s)) {
			t.Fatalf("%v %v %d: %+v", got, l, e, s)
		}
	}
	if beats < 3000 || more < 1000 {
		t.Error("too few:", beats, more)
	}
}
