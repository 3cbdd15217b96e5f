package cluster_test

import (
	"math"
	"slices"
	"testing"

	"amnesia/api"
	"amnesia/cluster"
	"amnesia/message"
)

// G6: without any premise, for every script: forgeries, made-up bytes, draws that are used again, the greatest numbers and full logs among it.

// arrival is a packet that is to come to a replica that is alive.
type arrival struct {
	node  int
	state api.State // ahead of it
	m     api.Msg
	e     api.Errno // message.Decode's
}

// arrives: what a Deliver is to bring to a replica that is alive.
func arrives(setup api.Setup, u *cluster.Cluster, e api.Event) (arrival, bool) {
	pool := u.Pool()
	if e.Kind != api.EventDeliver || len(pool) == 0 || e.Index < 0 {
		return arrival{}, false
	}
	p := pool[e.Index%len(pool)]
	s, on := u.Look(p.To)
	m, errno := message.Decode(setup.Config, p.Bytes)
	return arrival{p.To, s, m, errno}, on
}

func TestAnythingAtAll(t *testing.T) {
	t.Parallel()
	met := make(map[string]int)
	for seed := range uint64(150) {
		r := seeded(11000 + seed)
		setup := someSetup(r)
		setup.Config.Room = pick(r, 1, 2, 5)
		u := made(t, setup)
		for range 250 {
			e := someEvent(t, r, setup, u)
			a, is := arrives(setup, u, e)
			rows, errno := u.Do(e)
			if errno != api.OK && (errno != api.ErrEvent || len(rows) != 0) {
				t.Fatal(errno, rows)
			}
			if is && errno == api.OK {
				expectArrival(t, setup, u, a, e, rows, met)
			}
		}
	}
	expectEnough(t, met, map[string]int{"no frame": 400, "full": 40, "refused": 20, "greatest": 20})
}

func expectArrival(t *testing.T, setup api.Setup, u *cluster.Cluster, a arrival, e api.Event, rows []api.Seen, met map[string]int) {
	t.Helper()
	now, _ := u.Look(a.node)
	if a.e != api.OK {
		met["no frame"]++
		want := []api.SeenKind{api.SeenTaken, api.SeenDown}
		if e.Cut == 0 {
			want = want[:1]
		}
		expectKinds(t, rows, want...)
		if e.Cut == 0 && !sameState(now, a.state) {
			t.Fatal(now, a.state)
		}
		return
	}
	primary := a.state.Status == api.StatusNormal && a.state.View%(2*setup.Config.F+1) == a.node
	if a.m.Kind != api.KindRequest || !primary || e.Cut > 0 {
		return
	}
	if a.m.Entry.Number == math.MaxInt {
		met["greatest"]++
	}
	if len(a.state.Log) < setup.Config.Room {
		return
	}
	met["full"]++
	if !sameState(now, a.state) {
		t.Fatal(now, a.state)
	}
	fresh := !slices.ContainsFunc(a.state.Log, func(e api.Entry) bool { return e.Client == a.m.Entry.Client && e.Number >= a.m.Entry.Number })
	refused := false
	for _, row := range rows[1:] {
		m, _ := message.Decode(setup.Config, row.Packet.Bytes)
		if row.Kind != api.SeenSent || m.Kind != api.KindReply {
			t.Fatal(row)
		}
		refused = refused || m.Result.Code == api.ResRefused
	}
	if refused != fresh {
		t.Fatal(a, rows)
	}
	if fresh {
		met["refused"]++
	}
}

// A request with the greatest number is like any other, a forged one too; behind it every other number of that client is old.
func TestGreatestRequest(t *testing.T) {
	w := paired(t, setupOf(three, 0, math.MaxInt-1), submit(1, write(7, "a")), rounds(5))
	if got := w.client(1); got.Number != math.MaxInt || got.Result != written {
		t.Fatal(got)
	}
	w.do(inject(0, 8, frame(t, three, api.Msg{Kind: api.KindRequest, Entry: entry(0, math.MaxInt, count)})), rounds(5))
	for node := range 3 {
		if s := w.state(node); s.Commit != 2 || s.Log[1] != entry(0, math.MaxInt, count) {
			t.Fatal(s)
		}
	}
	w.do(submit(0, write(8, "b")), rounds(50)) // its number is old for ever: it is not answered, nor does it enter the log
	if got := w.client(0); !got.Waits || w.state(0).Commit != 2 {
		t.Error(got, w.state(0))
	}
}

// The greatest view: nobody goes beyond it, and nothing panics.
func TestGreatestView(t *testing.T) {
	w := paired(t, setupOf(three, 0))
	primary := api.MaxView % 3
	forged := frame(t, three, by(three, primary, api.Msg{Kind: api.KindStartView, View: api.MaxView}))
	for node := range 3 {
		w.do(inject(node, primary, forged))
	}
	w.do(rounds(1), crash(primary), submit(0, count), rounds(50))
	for node := range 3 {
		if s, on := w.u.Look(node); on && s.View != api.MaxView {
			t.Error(s)
		}
	}
}

// A full log and logs of the greatest size, with the greatest values: everything fits into its packets.
func TestFullLogs(t *testing.T) {
	t.Parallel()
	c := api.Config{F: 1, Room: 256, Patience: 6}
	u := made(t, setupOf(c, make([]int, 16)...))
	long := string(make([]byte, 64))
	for place := range 256 {
		doAll(t, u, submit(place%16, write(place, long)))
		if place%16 == 15 {
			doAll(t, u, rounds(5))
		}
	}
	doAll(t, u, submit(3, count), rounds(3), crash(0), rounds(12), restart(0, lo(5), 0), rounds(4))
	for node := range 3 {
		if s, on := u.Look(node); !on || s.Status != api.StatusNormal || s.View != 1 || len(s.Log) != 256 || s.Commit != 256 {
			t.Fatal(node, s.Status, s.View, len(s.Log), s.Commit)
		}
	}
	for client := range 16 {
		if l, _ := u.Client(client); l.Waits != (client == 3) {
			t.Error(client, l)
		}
	}
}
