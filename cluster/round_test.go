package cluster_test

import (
	"math"
	"testing"

	"amnesia/api"
	"amnesia/cluster"
)

func TestRoundCounts(t *testing.T) {
	w := paired(t, setupOf(three, 0), submit(0, count))
	for _, k := range []int{0, -1, 10001, 10002, 1 << 32, math.MinInt, math.MaxInt} {
		w.refuse(rounds(k))
	}
	w.do(rounds(1))
	w.do(rounds(10000))
	if got := w.client(0); got.Waits || w.u.Events() != 3 {
		t.Error(got, w.u.Events())
	}
	// With nobody alive, and nothing under way, nothing is seen.
	dead := paired(t, setupOf(three), crash(0), crash(1), crash(2))
	dead.expect(rounds(10000))
}

// withoutEvents: the rows, whichever event they were seen in.
func withoutEvents(rows []api.Seen) []api.Seen {
	for i := range rows {
		rows[i].Event = 0
	}
	return rows
}

func doAll(t *testing.T, u *cluster.Cluster, script ...api.Event) []api.Seen {
	t.Helper()
	var all []api.Seen
	for _, e := range script {
		rows, errno := u.Do(e)
		if errno != api.OK {
			t.Fatal(errno, e)
		}
		all = append(all, rows...)
	}
	return withoutEvents(all)
}

// partsOfRound: a round, event by event: each client that waits asks again; what is under way then comes, which is always first in the pool; and all tick.
func partsOfRound(t *testing.T, setup api.Setup, u *cluster.Cluster) []api.Seen {
	t.Helper()
	var all []api.Seen
	for client := range setup.Clients {
		all = append(all, doAll(t, u, retry(client))...)
	}
	for range u.Pool() {
		all = append(all, doAll(t, u, deliver(0, 0))...)
	}
	for node := range 2*setup.Config.F + 1 {
		all = append(all, doAll(t, u, tick(node, 0))...)
	}
	return all
}

// A Round of k is k Rounds of 1, and a Round of 1 its Retries, Delivers and Ticks, from wherever a run has come to.
func TestRoundsArePlainEvents(t *testing.T) {
	seen := 0
	for seed := range uint64(120) {
		r := seeded(4000 + seed)
		setup := someSetup(r)
		one, two, three := made(t, setup), made(t, setup), made(t, setup)
		for range r.IntN(60) {
			e := someEvent(t, r, setup, one)
			for _, u := range []*cluster.Cluster{one, two, three} {
				u.Do(e)
			}
		}
		k := 1 + r.IntN(9)
		whole := doAll(t, one, rounds(k))
		var apart, parts []api.Seen
		for range k {
			apart = append(apart, doAll(t, two, rounds(1))...)
			parts = append(parts, partsOfRound(t, setup, three)...)
		}
		if !sameRows(whole, apart) || !sameRows(whole, parts) {
			t.Fatalf("%d rounds: %v, %v, %v", k, told(setup.Config, whole), told(setup.Config, apart), told(setup.Config, parts))
		}
		expectSamePlain(t, setup, one, two)
		expectSamePlain(t, setup, one, three)
		seen += len(whole)
	}
	if seen < 5000 {
		t.Error("too little is seen:", seen)
	}
}

// Who waits asks again in each round, who asks does not; what is sent meanwhile comes in the next one.
func TestWhoSendsInARound(t *testing.T) {
	w := paired(t, setupOf(three, 0, 0, 0), submit(2, count), submit(0, count), query(1, 1, count))
	w.clear()
	rows := w.do(rounds(1))
	for i, to := range []int{0, 1, 2} {
		if p := rows[i].Packet; !samePacket(p, request(t, three, to, entry(0, 1, count))) {
			t.Fatal(p)
		}
		if p := rows[3+i].Packet; !samePacket(p, request(t, three, to, entry(2, 1, count))) {
			t.Fatal(p)
		}
	}
	for _, row := range rows[6:] {
		if row.Kind == api.SeenSent && row.Packet.From >= 7 || row.Kind == api.SeenTaken && row.Packet.From < 7 {
			t.Fatal(row)
		}
	}
	if got := w.client(1); !got.Asks {
		t.Error(got)
	}
}

// A round in which a replica is crashed: what comes to it is gone, and it does not tick.
func TestRoundWithACrashedOne(t *testing.T) {
	w := paired(t, setupOf(three, 0), submit(0, count), crash(1))
	for _, row := range w.do(rounds(4)) {
		if row.Kind == api.SeenTaken && row.Packet.To == 1 || row.Kind == api.SeenSent && row.Packet.From == 1 {
			t.Fatal(row)
		}
	}
	if got := w.client(0); got.Waits || got.Result.Code != api.ResCount {
		t.Error(got)
	}
}
