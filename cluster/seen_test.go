package cluster_test

import (
	"slices"
	"testing"

	"amnesia/api"
)

// What is seen of a step, and in which order.

func lead(node, view int, log ...api.Entry) api.Seen {
	return api.Seen{Kind: api.SeenLead, Node: node, View: view, Log: log}
}

func back(node, view int, log ...api.Entry) api.Seen {
	return api.Seen{Kind: api.SeenBack, Node: node, View: view, Log: log}
}

var someEntries = []api.Entry{asked, entry(1, 1, write(7, "b")), entry(2, 4, read(7))}

// forge: a message that nobody has sent comes to a replica, with that cut.
func (w *pair) forge(node, from, cut int, m api.Msg, want ...api.Seen) {
	w.t.Helper()
	b := frame(w.t, w.model.setup.Config, m)
	w.do(inject(node, from, b))
	all := append([]api.Seen{taken(api.Packet{From: from, To: node, Bytes: b})}, want...)
	w.expect(deliver(len(w.u.Pool())-1, cut), all...)
}

// A commit number that goes up by several: a row for each place, rising, with the View behind the step.
func TestSeveralAreDone(t *testing.T) {
	w := paired(t, setupOf(three, 0, 0, 3))
	for i, e := range someEntries {
		w.forge(2, 0, 0, by(three, 0, api.Msg{Kind: api.KindPrepare, Place: i + 1, Entry: e}), sent(packet(t, three, 2, 0, by(three, 2, api.Msg{Kind: api.KindPrepareOK, Place: i + 1}))))
	}
	w.forge(2, 0, 0, by(three, 0, api.Msg{Kind: api.KindCommit, Commit: 1}), done(2, 0, 1, someEntries[0]))
	w.forge(2, 0, 0, by(three, 0, api.Msg{Kind: api.KindCommit, Commit: 3}), done(2, 0, 2, someEntries[1]), done(2, 0, 3, someEntries[2]))
	w.forge(2, 0, 0, by(three, 0, api.Msg{Kind: api.KindCommit, Commit: 3}))
	w.forge(2, 0, 0, by(three, 0, api.Msg{Kind: api.KindCommit, Commit: 2}))
}

// With a log that is taken over from a later view: what is new up to its commit number, in that view.
func TestDoneInALaterView(t *testing.T) {
	w := paired(t, setupOf(three, 0, 0, 3))
	w.forge(2, 0, 0, by(three, 0, api.Msg{Kind: api.KindPrepare, Place: 1, Commit: 1, Entry: asked}), done(2, 0, 1, asked), sent(packet(t, three, 2, 0, by(three, 2, api.Msg{Kind: api.KindPrepareOK, Place: 1}))))
	w.forge(2, 1, 0, by(three, 1, api.Msg{Kind: api.KindStartView, View: 4, Commit: 3, Log: someEntries}), done(2, 4, 2, someEntries[1]), done(2, 4, 3, someEntries[2]))
}

// Where the commit number goes down nothing is done.
func TestCommitGoesDown(t *testing.T) {
	w := paired(t, setupOf(three, 0, 0, 3))
	w.forge(2, 1, 0, by(three, 1, api.Msg{Kind: api.KindStartView, View: 1, Commit: 3, Log: someEntries}), done(2, 1, 1, someEntries[0]), done(2, 1, 2, someEntries[1]), done(2, 1, 3, someEntries[2]))
	other := entry(5, 5, count)
	w.forge(2, 1, 0, by(three, 1, api.Msg{Kind: api.KindStartView, View: 4, Commit: 1, Log: []api.Entry{other}}))
	if s := w.state(2); s.Commit != 1 || !slices.Equal(s.Log, []api.Entry{other}) {
		t.Fatal(s)
	}
	w.forge(2, 1, 0, by(three, 1, api.Msg{Kind: api.KindStartView, View: 7, Commit: 2, Log: someEntries[:2]}), done(2, 7, 2, someEntries[1]))
}

// Lead, with F 1: one ballot makes a replica, normal in a lower view, go to the view and start it.
func TestLeadByOneBallot(t *testing.T) {
	ballot := by(three, 2, api.Msg{Kind: api.KindDoViewChange, View: 4, Last: 2, Commit: 2, Log: someEntries})
	called, began := by(three, 1, api.Msg{Kind: api.KindStartViewChange, View: 4}), by(three, 1, api.Msg{Kind: api.KindStartView, View: 4, Commit: 2, Log: someEntries})
	answer := func(place int, result api.Result) api.Packet {
		e := someEntries[place-1]
		return packet(t, three, 1, 7+e.Client, api.Msg{Kind: api.KindReply, Node: 1, View: 4, Place: place, Entry: entry(e.Client, e.Number, api.Op{}), Result: result})
	}
	writing, taking := answer(1, written), answer(2, api.Result{Code: api.ResTaken, Slot: 7, Value: "a"})
	want := []api.Seen{
		done(1, 4, 1, someEntries[0]), done(1, 4, 2, someEntries[1]), lead(1, 4, someEntries...),
		sent(packet(t, three, 1, 0, called)), sent(packet(t, three, 1, 2, called)), sent(packet(t, three, 1, 0, began)), sent(packet(t, three, 1, 2, began)), sent(writing), sent(taking),
	}
	for _, cut := range []int{0, 1, 3, 7, 8} {
		w := paired(t, setupOf(three, 0, 0, 3))
		rows := want
		if cut > 0 {
			rows = append(slices.Clone(want[:min(3+cut-1, len(want))]), down(1))
		}
		w.forge(1, 2, cut, ballot, rows...)
	}
}

// Lead of one that was changing; it was so ahead of the step.
func TestLeadOfAChangingOne(t *testing.T) {
	w := paired(t, setupOf(three, 0, 0, 3), tick(1, 0), tick(1, 0), tick(1, 0), tick(1, 0), tick(1, 0), tick(1, 0))
	if s := w.state(1); s.Status != api.StatusChange || s.View != 1 {
		t.Fatal(s)
	}
	began := by(three, 1, api.Msg{Kind: api.KindStartView, View: 1})
	w.forge(1, 2, 0, by(three, 2, api.Msg{Kind: api.KindDoViewChange, View: 1}), lead(1, 1), sent(packet(t, three, 1, 0, began)), sent(packet(t, three, 1, 2, began)))
	w.forge(1, 2, 0, by(three, 2, api.Msg{Kind: api.KindDoViewChange, View: 1})) // it has begun: nothing
	// A tick of the primary starts no view, nor does what comes to it in its view.
	w.expect(tick(1, 0), sent(packet(t, three, 1, 0, by(three, 1, api.Msg{Kind: api.KindCommit, View: 1}))), sent(packet(t, three, 1, 2, by(three, 1, api.Msg{Kind: api.KindCommit, View: 1}))))
}

// Who only follows, or only goes to a view, leads nothing.
func TestNoLead(t *testing.T) {
	w := paired(t, setupOf(three, 0))
	w.forge(2, 1, 0, by(three, 1, api.Msg{Kind: api.KindStartView, View: 1}))
	called := by(three, 2, api.Msg{Kind: api.KindStartViewChange, View: 2})
	w.forge(2, 0, 0, by(three, 0, api.Msg{Kind: api.KindStartViewChange, View: 2}), sent(packet(t, three, 2, 0, called)), sent(packet(t, three, 2, 1, called)))
	if s := w.state(2); s.Status != api.StatusChange || s.View != 2 {
		t.Error(s)
	}
	w.forge(2, 1, 0, by(three, 1, api.Msg{Kind: api.KindNewState, View: 4}))
	if s := w.state(2); s.Status != api.StatusNormal || s.View != 4 {
		t.Error(s)
	}
}

// With F 2 the second ballot starts the view.
func TestLeadByTwoBallots(t *testing.T) {
	w := paired(t, setupOf(five, 0, 0, 3))
	ballot := api.Msg{Kind: api.KindDoViewChange, View: 6, Last: 5, Commit: 1, Log: someEntries[:2]}
	var calls, begins []api.Seen
	for _, to := range []int{0, 2, 3, 4} {
		calls = append(calls, sent(packet(t, five, 1, to, by(five, 1, api.Msg{Kind: api.KindStartViewChange, View: 6}))))
		begins = append(begins, sent(packet(t, five, 1, to, by(five, 1, api.Msg{Kind: api.KindStartView, View: 6, Commit: 1, Log: someEntries[:2]}))))
	}
	w.forge(1, 4, 0, by(five, 4, ballot), calls...)
	answer := packet(t, five, 1, 7, api.Msg{Kind: api.KindReply, Node: 1, View: 6, Place: 1, Entry: entry(0, 1, api.Op{}), Result: written})
	want := append([]api.Seen{done(1, 6, 1, asked), lead(1, 6, someEntries[:2]...)}, begins...)
	w.forge(1, 2, 0, by(five, 2, ballot), append(want, sent(answer))...)
}

// Back: what the primary's answer says is carried out is done, then it is back, then it acknowledges; with a cut it is gone again.
func TestBack(t *testing.T) {
	for cut := range 4 {
		w := paired(t, setupOf(three, 0, 0, 3), crash(2), restart(2, lo(5), 0))
		answer := func(node int, log []api.Entry, commit int) api.Msg {
			return api.Msg{Kind: api.KindRecoveryResponse, Node: node, View: 4, Draw: lo(5), Commit: commit, Log: log, Vector: los(0, 0, 5)}
		}
		w.forge(2, 0, 0, answer(0, nil, 0))
		ok := packet(t, three, 2, 1, api.Msg{Kind: api.KindPrepareOK, Node: 2, View: 4, Place: 3, Vector: los(0, 0, 5)})
		want := []api.Seen{done(2, 4, 1, someEntries[0]), done(2, 4, 2, someEntries[1]), back(2, 4, someEntries...), sent(ok)}
		switch {
		case cut == 1:
			want[3] = down(2)
		case cut > 1:
			want = append(want, down(2))
		}
		w.forge(2, 1, cut, answer(1, someEntries, 2), want...)
	}
}

// One that is back is no leader by it, and one that leads is not back: with an empty log too.
func TestBackWithNothing(t *testing.T) {
	w := paired(t, setupOf(three, 0), crash(2), restart(2, lo(5), 0))
	w.clear()
	for node := range 2 {
		want := []api.Seen{back(2, 0)}[:node]
		m := api.Msg{Kind: api.KindRecoveryResponse, Node: 1 - node, Draw: lo(5), Vector: los(0, 0, 5)}
		w.forge(2, 1-node, 0, m, want...)
	}
}
