package cluster_test

import (
	"slices"
	"testing"

	"amnesia/api"
)

// The chapter's examples 1 to 5: F 1, Room 4, Patience 6, one client with Number 0.

var (
	asked   = entry(0, 1, write(7, "a"))
	written = api.Result{Code: api.ResWritten, Slot: 7, Value: "a"}
)

// Rows, by what each has.

func sent(p api.Packet) api.Seen { return api.Seen{Kind: api.SeenSent, Packet: p} }

func taken(p api.Packet) api.Seen { return api.Seen{Kind: api.SeenTaken, Packet: p} }

func down(node int) api.Seen { return api.Seen{Kind: api.SeenDown, Node: node} }

func up(node int, d api.Draw) api.Seen { return api.Seen{Kind: api.SeenUp, Node: node, Draw: d} }

func done(node, view, place int, e api.Entry) api.Seen {
	return api.Seen{Kind: api.SeenDone, Node: node, View: view, Place: place, Entry: e}
}

func request(t *testing.T, c api.Config, to int, e api.Entry) api.Packet {
	t.Helper()
	return packet(t, c, 7+e.Client, to, api.Msg{Kind: api.KindRequest, Entry: e})
}

func prepare(t *testing.T, c api.Config, to, place int, e api.Entry) api.Packet {
	t.Helper()
	return packet(t, c, 0, to, by(c, 0, api.Msg{Kind: api.KindPrepare, Place: place, Entry: e}))
}

func prepareOK(t *testing.T, c api.Config, from, place int) api.Packet {
	t.Helper()
	return packet(t, c, from, 0, by(c, from, api.Msg{Kind: api.KindPrepareOK, Place: place}))
}

func commit(t *testing.T, c api.Config, to, place int) api.Packet {
	t.Helper()
	return packet(t, c, 0, to, by(c, 0, api.Msg{Kind: api.KindCommit, Commit: place}))
}

func reply(t *testing.T, c api.Config, node, place int, e api.Entry, result api.Result) api.Packet {
	t.Helper()
	return packet(t, c, node, 7+e.Client, api.Msg{Kind: api.KindReply, Node: node, Place: place, Entry: entry(e.Client, e.Number, api.Op{}), Result: result})
}

func TestExample1(t *testing.T) {
	w := paired(t, setupOf(three, 0))
	w.expect(submit(0, write(7, "a")), api.Seen{Kind: api.SeenAsked, Entry: asked}, sent(request(t, three, 0, asked)), sent(request(t, three, 1, asked)), sent(request(t, three, 2, asked)))
	if c := w.client(0); c != (api.ClientLook{Number: 1, Waits: true, Op: write(7, "a")}) {
		t.Error(c)
	}
	want := []api.Packet{request(t, three, 0, asked), request(t, three, 1, asked), request(t, three, 2, asked)}
	if pool := w.u.Pool(); !samePool(pool, want) || w.u.Events() != 1 {
		t.Error(pool, w.u.Events())
	}
}

func TestExample2(t *testing.T) {
	w := paired(t, setupOf(three, 0), submit(0, write(7, "a")))
	w.expect(deliver(0, 0), taken(request(t, three, 0, asked)), sent(prepare(t, three, 1, 1, asked)), sent(prepare(t, three, 2, 1, asked)))
	want := []api.Packet{request(t, three, 1, asked), request(t, three, 2, asked), prepare(t, three, 1, 1, asked), prepare(t, three, 2, 1, asked)}
	if pool := w.u.Pool(); !samePool(pool, want) {
		t.Error(pool)
	}
}

func TestExample3(t *testing.T) {
	w := paired(t, setupOf(three, 0), submit(0, write(7, "a")))
	w.expect(deliver(0, 2), taken(request(t, three, 0, asked)), sent(prepare(t, three, 1, 1, asked)), down(0))
	if s, on := w.u.Look(0); on || !sameState(s, api.State{}) {
		t.Error(s, on)
	}
	want := []api.Packet{request(t, three, 1, asked), request(t, three, 2, asked), prepare(t, three, 1, 1, asked)}
	if pool := w.u.Pool(); !samePool(pool, want) {
		t.Error(pool)
	}
}

// What comes in each round, all of it written out: each client that waits asks again, and each tick of the primary is a Commit, and a Prepare of what is not acknowledged.
func TestExample4(t *testing.T) {
	w := paired(t, setupOf(three, 0), submit(0, write(7, "a")))
	r, p := func(to int) api.Packet { return request(t, three, to, asked) }, func(to int) api.Packet { return prepare(t, three, to, 1, asked) }
	ok := func(from int) api.Packet { return prepareOK(t, three, from, 1) }
	c := func(to, place int) api.Packet { return commit(t, three, to, place) }
	told := reply(t, three, 0, 1, asked, written)
	requests := []api.Seen{sent(r(0)), sent(r(1)), sent(r(2))}
	beat := []api.Seen{sent(c(1, 0)), sent(c(2, 0)), sent(p(1)), sent(p(2))}
	first := slices.Concat(requests,
		[]api.Seen{taken(r(0)), sent(p(1)), sent(p(2)), taken(r(1)), taken(r(2)), taken(r(0)), taken(r(1)), taken(r(2))}, beat)
	w.expect(rounds(1), first...)
	second := slices.Concat(requests,
		[]api.Seen{taken(p(1)), sent(ok(1)), taken(p(2)), sent(ok(2)), taken(c(1, 0)), taken(c(2, 0)), taken(p(1)), sent(ok(1)), taken(p(2)), sent(ok(2)), taken(r(0)), taken(r(1)), taken(r(2))}, beat)
	w.expect(rounds(1), second...)
	third := slices.Concat(requests,
		[]api.Seen{taken(ok(1)), done(0, 0, 1, asked), sent(told), sent(c(1, 1)), sent(c(2, 1)), taken(ok(2)), taken(ok(1)), taken(ok(2)),
			taken(c(1, 0)), taken(c(2, 0)), taken(p(1)), sent(ok(1)), taken(p(2)), sent(ok(2)), taken(r(0)), sent(told), taken(r(1)), taken(r(2))},
		[]api.Seen{sent(c(1, 1)), sent(c(2, 1))})
	w.expect(rounds(1), third...)
	fourth := slices.Concat(requests,
		[]api.Seen{taken(told), {Kind: api.SeenReply, Entry: entry(0, 1, api.Op{}), Result: written},
			taken(c(1, 1)), done(1, 0, 1, asked), taken(c(2, 1)), done(2, 0, 1, asked), taken(ok(1)), taken(ok(2)), taken(told),
			taken(c(1, 1)), taken(c(2, 1)), taken(r(0)), sent(told), taken(r(1)), taken(r(2))},
		[]api.Seen{sent(c(1, 1)), sent(c(2, 1))})
	w.expect(rounds(1), fourth...)
	if got := w.client(0); got != (api.ClientLook{Number: 1, Op: write(7, "a"), Result: written, Seen: 1}) {
		t.Error(got)
	}
}

func TestExample5(t *testing.T) {
	w := paired(t, setupOf(three, 0), submit(0, write(7, "a")))
	before := w.state(0)
	w.expect(restart(0, lo(5), 0))
	w.expect(restart(0, lo(5), 1))
	w.expect(restart(0, lo(5), 9))
	if !sameState(w.state(0), before) || w.u.Events() != 4 {
		t.Error(w.state(0), w.u.Events())
	}
}

// The document's examples of the whole, as far as they need no judge.

func TestWholeExamples1To4(t *testing.T) {
	w := paired(t, setupOf(three, 0, 0), submit(0, write(7, "a")), rounds(4))
	if c := w.client(0); c.Waits || c.Result != written {
		t.Fatal(c)
	}
	w.do(submit(1, write(7, "b")), rounds(4))
	if c := w.client(1); c.Waits || c.Result != (api.Result{Code: api.ResTaken, Slot: 7, Value: "a"}) || c.Seen != 2 {
		t.Fatal(c)
	}
	log := []api.Entry{asked, entry(1, 1, write(7, "b"))}
	w.do(rounds(1)) // the last Commit comes
	w.do(crash(0), rounds(6))
	for node := 1; node < 3; node++ {
		if s := w.state(node); s.View != 1 || s.Status != api.StatusChange {
			t.Fatal(s)
		}
	}
	w.do(rounds(3))
	for node := 1; node < 3; node++ {
		if s := w.state(node); s.View != 1 || s.Status != api.StatusNormal || !slices.Equal(s.Log, log) || s.Commit != 2 {
			t.Fatal(s)
		}
	}
	w.do(restart(0, lo(5), 0), rounds(2))
	if s := w.state(0); s.View != 1 || s.Status != api.StatusNormal || !slices.Equal(s.Log, log) || s.Commit != 2 || !slices.Equal(s.Vector, los(5, 0, 0)) {
		t.Fatal(s)
	}
}

// Two crash at one time: the one that is left commits nothing more.
func TestWholeExample6(t *testing.T) {
	w := paired(t, setupOf(three, 0, 0), submit(0, write(7, "a")), rounds(5), crash(1), crash(2), submit(1, write(8, "b")), rounds(400))
	if c := w.client(1); !c.Waits || w.state(0).Commit != 1 {
		t.Error(c, w.state(0))
	}
}

func TestWholeExample7(t *testing.T) {
	c := three
	c.Room = 1
	w := paired(t, setupOf(c, 0, 0), submit(0, write(7, "a")), rounds(5), submit(1, write(8, "b")), rounds(50))
	if got := w.client(1); got != (api.ClientLook{Number: 1, Waits: true, Op: write(8, "b")}) {
		t.Error(got)
	}
}

func TestWholeExample8(t *testing.T) {
	w := paired(t, setupOf(three, 0), submit(0, write(7, "a")), spoilt(0, 9, 4))
	want := request(t, three, 0, asked)
	want.Bytes[9] ^= 4
	before := w.state(0)
	w.expect(deliver(0, 0), taken(want))
	if !sameState(w.state(0), before) {
		t.Error(w.state(0))
	}
}

// A forged StartView takes a log away.
func TestWholeExample9(t *testing.T) {
	w := paired(t, setupOf(three, 0), submit(0, write(7, "a")), rounds(5))
	forged := frame(t, three, by(three, 0, api.Msg{Kind: api.KindStartView, View: 3}))
	w.do(inject(1, 0, forged))
	at := len(w.u.Pool()) - 1
	w.expect(deliver(at, 0), taken(api.Packet{From: 0, To: 1, Bytes: forged}))
	if s := w.state(1); s.View != 3 || len(s.Log) != 0 || s.Commit != 0 {
		t.Error(s)
	}
}

func TestWholeExample10(t *testing.T) {
	w := paired(t, setupOf(three, api.MaxNumber))
	w.refuse(submit(0, read(7)))
}
