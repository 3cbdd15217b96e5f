package cluster_test

import (
	"slices"
	"testing"

	"amnesia/api"
	"amnesia/message"
)

// The great promises, each in one small run that is written out. (Many runs: great_test.go and plot_test.go.)

// G1: requests that come twice, before and behind a change of the primary, are carried out once, and answered the same.
func TestOnce(t *testing.T) {
	w := paired(t, setupOf(three, 0, 0), submit(0, write(7, "a")), copyOf(0), copyOf(1), copyOf(2), rounds(3), retry(0), crash(0), rounds(12), retry(0), rounds(4))
	w.do(submit(1, write(7, "b")), copyOf(0), rounds(4))
	log := []api.Entry{asked, entry(1, 1, write(7, "b"))}
	for node := 1; node < 3; node++ {
		if s := w.state(node); s.View == 0 || !slices.Equal(s.Log, log) {
			t.Error(s)
		}
	}
	if a, b := w.client(0), w.client(1); a.Result != written || b.Result != (api.Result{Code: api.ResTaken, Slot: 7, Value: "a"}) {
		t.Error(a, b)
	}
}

// G2: replica 2 has never heard of an entry that 0 and 1 have; it crashes; so does 0, when it is back: 2 has it.
func TestNothingIsForgotten(t *testing.T) {
	w := tellable(t)
	w.give(7, api.KindReply)
	w.clear()
	w.do(crash(2), restart(2, lo(1), 0), rounds(3))
	if s := w.state(2); s.Status != api.StatusNormal || !slices.Equal(s.Log, []api.Entry{asked}) {
		t.Fatal(s)
	}
	w.do(crash(0), rounds(20), restart(0, lo(1), 0), rounds(20), crash(1), rounds(20))
	for _, node := range []int{0, 2} {
		if s := w.state(node); s.Status != api.StatusNormal || !slices.Equal(s.Log, []api.Entry{asked}) || s.Commit != 1 {
			t.Error(s)
		}
	}
}

// G3: what a life that is over has said is let go by all who have answered the next one; and who recovers sends Recovery alone, whatever comes.
func TestTheDeadDoNotVote(t *testing.T) {
	w := paired(t, setupOf(three, 0), submit(0, write(7, "a")))
	w.give(0, api.KindRequest)
	w.give(2, api.KindPrepare) // the acknowledgement is under way
	for range 6 {
		w.do(tick(2, 0)) // and a call for view 1
	}
	w.do(crash(2), restart(2, lo(5), 0))
	for _, from := range w.u.Pool() {
		w.do(inject(2, 0, from.Bytes))
		for _, row := range w.do(deliver(len(w.u.Pool())-1, 0)) {
			if row.Kind == api.SeenSent {
				t.Fatal(told(three, []api.Seen{row}))
			}
		}
	}
	for _, row := range w.do(tick(2, 0)) {
		if m, e := message.Decode(three, row.Packet.Bytes); e != api.OK || m.Kind != api.KindRecovery {
			t.Fatal(row)
		}
	}
	for node := range 2 {
		w.give(node, api.KindRecovery)
	}
	before := []api.State{w.state(0), w.state(1)}
	for node, k := range []api.Kind{api.KindPrepareOK, api.KindStartViewChange} {
		w.give(node, k)
		if s := w.state(node); !sameState(s, before[node]) || s.Commit != 0 || s.View != 0 {
			t.Error(s)
		}
	}
}

// G4 and G5: two that lead one behind the other, with packets of both under way: what is committed is the same everywhere.
func TestTwoPrimaries(t *testing.T) {
	w := paired(t, setupOf(three, 0, 0), submit(0, write(7, "a")))
	w.give(0, api.KindRequest) // 0 has it alone
	w.clear()
	for range 6 {
		w.do(tick(1, 0))
	}
	w.give(2, api.KindStartViewChange)
	w.give(1, api.KindDoViewChange) // 1 leads view 1 without it
	w.clear()
	w.do(submit(1, write(7, "b")))
	w.give(0, api.KindRequest) // 0 believes that it leads view 0
	w.give(1, api.KindRequest)
	w.do(rounds(60))
	for node := range 3 {
		s := w.state(node)
		if s.Status != api.StatusNormal || s.Commit != 2 || !slices.Equal(s.Log, []api.Entry{entry(1, 1, write(7, "b")), asked}) {
			t.Error(s)
		}
	}
	if a, b := w.client(0), w.client(1); a.Result != (api.Result{Code: api.ResTaken, Slot: 7, Value: "b"}) || b.Result != (api.Result{Code: api.ResWritten, Slot: 7, Value: "b"}) {
		t.Error(a, b)
	}
}

// G7, and what is not promised: with F + 1 that crash at one time nobody is answered again, and nothing is lost.
func TestTooManyCrash(t *testing.T) {
	w := paired(t, setupOf(three, 0, 0), submit(0, write(7, "a")), rounds(5), crash(1), crash(2), restart(1, lo(1), 0), restart(2, lo(1), 0), submit(1, write(8, "b")), rounds(336))
	if s := w.state(0); s.Commit != 1 || s.Log[0] != asked || !w.client(1).Waits {
		t.Error(s, w.client(1))
	}
	for node := 1; node < 3; node++ {
		if s := w.state(node); s.Status != api.StatusRecovering {
			t.Error(s)
		}
	}
}

// G9: a client that has read at one replica is told nothing older by another one.
func TestReadingsDoNotGoBack(t *testing.T) {
	w := tellable(t)
	w.clear()
	w.do(query(1, 0, read(7)))
	w.give(0, api.KindQuery)
	w.give(8, api.KindTold)
	if got := w.client(1); got.Seen != 1 || got.Told != (api.Result{Code: api.ResFound, Slot: 7, Value: "a"}) {
		t.Fatal(got)
	}
	w.do(query(1, 2, read(7))) // replica 2 has carried out nothing
	w.give(2, api.KindQuery)
	if pool := w.u.Pool(); len(pool) != 0 || !w.client(1).Asks {
		t.Fatal(pool)
	}
	w.do(rounds(3), query(1, 2, read(7)), rounds(2))
	if got := w.client(1); got.Asks || got.Told.Value != "a" {
		t.Error(got)
	}
}
