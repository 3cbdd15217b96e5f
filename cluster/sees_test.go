package cluster_test

import (
	"strings"
	"testing"

	"amnesia/api"
)

// The watch itself: rows and states in which a promise is broken, one by one.

func watchOfThree(t *testing.T) *watch {
	t.Helper()
	w := watched(t, setupOf(three, 0, 0), make(map[string]int))
	w.row(api.Seen{Kind: api.SeenAsked, Entry: asked})
	w.row(api.Seen{Kind: api.SeenAsked, Entry: someEntries[1]})
	w.row(done(0, 0, 1, asked))
	if w.fault != "" {
		t.Fatal(w.fault)
	}
	return w
}

func TestTheWatchSees(t *testing.T) {
	answered := func(result api.Result) api.Seen {
		return api.Seen{Kind: api.SeenReply, Entry: entry(0, 1, api.Op{}), Result: result}
	}
	toldAt := func(place, slots int) api.Seen {
		return api.Seen{Kind: api.SeenTold, Place: place, Entry: entry(0, 1, count), Result: api.Result{Code: api.ResCount, Slot: slots}}
	}
	startView := func(log ...api.Entry) api.Seen {
		return sent(packet(t, three, 1, 0, by(three, 1, api.Msg{Kind: api.KindStartView, View: 1, Log: log})))
	}
	up2 := up(2, lo(5))
	for _, x := range []struct {
		what, want string
		rows       []api.Seen
	}{
		{"nothing wrong", "", []api.Seen{done(1, 0, 1, asked), answered(written), toldAt(1, 1), startView(asked), lead(1, 1, asked), up2, back(2, 1, asked)}},
		{"another entry", "G1", []api.Seen{done(1, 0, 1, someEntries[1])}},
		{"a gap", "G1", []api.Seen{done(1, 0, 3, someEntries[1])}},
		{"not asked", "G1", []api.Seen{done(1, 0, 2, someEntries[2])}},
		{"twice", "G1", []api.Seen{done(1, 0, 2, asked)}},
		{"another result", "G1", []api.Seen{answered(api.Result{Code: api.ResTaken, Slot: 7, Value: "a"})}},
		{"a reply to what nobody did", "G1", []api.Seen{{Kind: api.SeenReply, Entry: entry(1, 1, api.Op{}), Result: written}}},
		{"forgotten", "G2", []api.Seen{up2, back(2, 0)}},
		{"speaks while it recovers", "G3", []api.Seen{up2, sent(prepareOK(t, three, 2, 1))}},
		{"two logs", "G5", []api.Seen{startView(asked), startView()}},
		{"two starts", "G5", []api.Seen{lead(1, 1, asked), lead(1, 1, asked)}},
		{"another reading", "G9", []api.Seen{toldAt(1, 0)}},
		{"a reading of what is to come", "G9", []api.Seen{toldAt(2, 1)}},
		{"a reading goes back", "G9", []api.Seen{toldAt(1, 1), toldAt(0, 0)}},
		{"a reading behind an answer", "G9", []api.Seen{answered(written), toldAt(0, 0)}},
	} {
		w := watchOfThree(t)
		for _, row := range x.rows {
			w.row(row)
		}
		if !strings.Contains(w.fault, x.want) || (x.want == "") != (w.fault == "") {
			t.Error(x.what, w.fault)
		}
	}
}

func TestTheWatchSeesStates(t *testing.T) {
	state := func(commit int, v api.Vector, log ...api.Entry) api.State {
		return api.State{Status: api.StatusNormal, Log: log, Commit: commit, Vector: v}
	}
	right := state(1, los(0, 0, 5), asked)
	w := watchOfThree(t)
	w.agree([]api.State{right, right, {}})
	if w.fault != "" {
		t.Error(w.fault)
	}
	w.agree([]api.State{right, state(1, los(0, 0, 5), someEntries[1]), {}})
	if !strings.Contains(w.fault, "G4") {
		t.Error(w.fault)
	}
	for ignorant, want := range []string{"", "G3"} { // with F 1 nobody may not know of it
		w := watchOfThree(t)
		w.row(up(2, lo(5)))
		w.row(back(2, 1, asked))
		now := []api.State{right, {}, right}
		if ignorant > 0 {
			now[0] = state(1, los(0, 0, 4), asked)
		}
		w.know(now)
		if !strings.Contains(w.fault, want) || (want == "") != (w.fault == "") {
			t.Error(ignorant, w.fault)
		}
	}
	for _, x := range []struct {
		draw uint64
		view int
		want string
	}{{5, 1, ""}, {6, 9, ""}, {4, 0, ""}, {4, 1, "G3"}, {0, 9, "G3"}} { // 2 came back with the draw 5, in view 1
		w := watchOfThree(t)
		w.row(up(2, lo(5)))
		w.row(back(2, 1, asked))
		w.alive("vote", 2, lo(x.draw), x.view)
		if !strings.Contains(w.fault, x.want) || (x.want == "") != (w.fault == "") {
			t.Error(x, w.fault)
		}
	}
}
