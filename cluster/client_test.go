package cluster_test

import (
	"math"
	"testing"

	"amnesia/api"
	"amnesia/message"
)

// Submit, Retry and Query, and what a client does with what comes to it.

func noClients(clients int) []int { return append([]int{clients, clients + 1}, farNumbers...) }

func TestSubmit(t *testing.T) {
	ops := []api.Op{write(0, ""), write(1023, string(make([]byte, 64))), {Kind: api.OpAppend, Value: "x"}, {Kind: api.OpAppend}, read(0), read(1023), count}
	for _, c := range configs() {
		w := paired(t, setupOf(c, 0, 4, 9))
		for i, op := range ops {
			client := i % 3
			want := entry(client, []int{0, 4, 9}[client]+1+i/3, op)
			row := []api.Seen{{Kind: api.SeenAsked, Entry: want}}
			for node := range 2*c.F + 1 {
				row = append(row, sent(request(t, c, node, want)))
			}
			w.expect(submit(client, op), row...)
			if got := w.client(client); got != (api.ClientLook{Number: want.Number, Waits: true, Op: op}) {
				t.Fatal(got)
			}
		}
	}
}

func TestSubmitRefused(t *testing.T) {
	w := paired(t, setupOf(three, 0, 3), submit(1, count))
	for _, op := range wrongOps() {
		w.refuse(submit(0, op), submit(1, op))
	}
	for _, client := range noClients(2) {
		w.refuse(submit(client, count))
	}
	w.do(submit(0, count))
}

// The greatest number is like any other; behind it there is no next one.
func TestGreatestNumber(t *testing.T) {
	w := paired(t, setupOf(three, math.MaxInt-1, math.MaxInt, math.MaxInt-2))
	w.refuse(submit(1, count))
	w.do(submit(0, write(7, "a")))
	w.refuse(submit(0, write(8, "a")), submit(0, count), submit(1, count))
	w.do(rounds(4))
	if got := w.client(0); got != (api.ClientLook{Number: math.MaxInt, Op: write(7, "a"), Result: written, Seen: 1}) {
		t.Error(got)
	}
	w.refuse(submit(0, count))
	w.do(submit(2, count), rounds(4), submit(2, write(7, "b")), rounds(4))
	w.refuse(submit(2, count))
	if got := w.client(2); got.Number != math.MaxInt || got.Waits || got.Result != (api.Result{Code: api.ResTaken, Slot: 7, Value: "a"}) {
		t.Error(got)
	}
}

func TestRetry(t *testing.T) {
	w := paired(t, setupOf(three, 0, 5))
	w.expect(retry(0))
	w.do(submit(0, write(7, "a")))
	again := []api.Seen{sent(request(t, three, 0, asked)), sent(request(t, three, 1, asked)), sent(request(t, three, 2, asked))}
	w.expect(retry(0), again...)
	w.expect(retry(0), again...)
	w.expect(retry(1))
	w.do(rounds(4))
	w.expect(retry(0)) // it has its answer
	for _, client := range noClients(2) {
		w.refuse(retry(client))
	}
	none := paired(t, setupOf(three))
	none.refuse(retry(0), submit(0, count), query(0, 0, count))
}

// A request that is made while an earlier one is under way takes its place.
func TestSubmitWhileItWaits(t *testing.T) {
	w := paired(t, setupOf(three, 0), submit(0, write(7, "a")), submit(0, write(8, "b")))
	if got := w.client(0); got != (api.ClientLook{Number: 2, Waits: true, Op: write(8, "b")}) {
		t.Fatal(got)
	}
	rows := w.do(retry(0))
	if len(rows) != 3 || !samePacket(rows[0].Packet, request(t, three, 0, entry(0, 2, write(8, "b")))) {
		t.Fatal(rows)
	}
	w.do(rounds(4))
	if got := w.client(0); got != (api.ClientLook{Number: 2, Op: write(8, "b"), Result: api.Result{Code: api.ResWritten, Slot: 8, Value: "b"}, Seen: 2}) {
		t.Error(got)
	}
}

func TestQuery(t *testing.T) {
	for _, c := range configs() {
		w := paired(t, setupOf(c, 0, 3))
		queries := 0
		for node := range 2*c.F + 1 {
			for _, op := range []api.Op{read(0), read(1023), count} {
				queries++
				want := packet(t, c, 8, node, api.Msg{Kind: api.KindQuery, Entry: entry(1, queries, op)})
				w.expect(query(1, node, op), sent(want))
				if got := w.client(1); got != (api.ClientLook{Number: 3, Queries: queries, Asks: true, Query: op}) {
					t.Fatal(got)
				}
				if pool := w.u.Pool(); len(pool) != queries || !samePacket(pool[queries-1], want) {
					t.Fatal(pool)
				}
			}
		}
	}
}

func TestQueryRefused(t *testing.T) {
	w := paired(t, setupOf(three, 0, 3), query(1, 2, read(7)))
	for _, op := range append(wrongOps(), write(7, "a"), api.Op{Kind: api.OpAppend, Value: "a"}, api.Op{Kind: api.OpAppend}) {
		w.refuse(query(0, 0, op), query(1, 2, op))
	}
	for _, client := range noClients(2) {
		w.refuse(query(client, 0, count))
	}
	for _, node := range append([]int{3, 4, 7, 8}, farNumbers...) {
		w.refuse(query(0, node, count))
	}
	w.do(query(0, 2, count))
}

// A query bears the place up to which the client has seen the ledger; it goes out to a replica that is crashed, too, and is not sent again.
func TestQueryPlace(t *testing.T) {
	w := paired(t, setupOf(three, 0), submit(0, write(7, "a")), rounds(5), crash(2))
	w.expect(query(0, 2, read(7)), sent(packet(t, three, 7, 2, api.Msg{Kind: api.KindQuery, Place: 1, Entry: entry(0, 1, read(7))})))
	w.clear()
	w.do(rounds(20))
	if got := w.client(0); !got.Asks || got.Queries != 1 || got.Told != (api.Result{}) {
		t.Error(got)
	}
	w.do(query(0, 1, read(7)), rounds(2))
	if got := w.client(0); got.Asks || got.Queries != 2 || got.Told != (api.Result{Code: api.ResFound, Slot: 7, Value: "a"}) || got.Query != read(7) {
		t.Error(got)
	}
}

// A Reply to its number: it waits no more. The same once more, and one to an older number: nothing.
func TestReplies(t *testing.T) {
	w := paired(t, setupOf(three, 0), submit(0, write(7, "a")))
	w.give(0, api.KindRequest)
	w.give(1, api.KindPrepare)
	w.give(0, api.KindPrepareOK)
	at := w.find(7, api.KindReply)
	w.do(copyOf(at), copyOf(at), copyOf(at))
	told := reply(t, three, 0, 1, asked, written)
	w.expect(deliver(at, 0), taken(told), api.Seen{Kind: api.SeenReply, Entry: entry(0, 1, api.Op{}), Result: written})
	answered := api.ClientLook{Number: 1, Op: write(7, "a"), Result: written, Seen: 1}
	if got := w.client(0); got != answered {
		t.Fatal(got)
	}
	w.expect(deliver(w.find(7, api.KindReply), 0), taken(told)) // it waits no more
	if got := w.client(0); got != answered {
		t.Fatal(got)
	}
	w.do(submit(0, write(7, "b")))
	waits := api.ClientLook{Number: 2, Waits: true, Op: write(7, "b"), Seen: 1}
	w.expect(deliver(w.find(7, api.KindReply), 0), taken(told)) // to its request before
	if got := w.client(0); got != waits {
		t.Fatal(got)
	}
	w.do(rounds(5))
	if got := w.client(0); got != (api.ClientLook{Number: 2, Op: write(7, "b"), Result: api.Result{Code: api.ResTaken, Slot: 7, Value: "a"}, Seen: 2}) {
		t.Error(got)
	}
}

// A Reply that tells ResRefused is no answer: the client goes on waiting.
func TestRefusedReply(t *testing.T) {
	c := three
	c.Room = 1
	w := paired(t, setupOf(c, 0, 0), submit(0, write(7, "a")), rounds(5))
	w.clear()
	w.do(submit(1, count))
	w.give(0, api.KindRequest)
	refused := reply(t, c, 0, 0, entry(1, 1, count), api.Result{Code: api.ResRefused})
	w.expect(deliver(w.find(8, api.KindReply), 0), taken(refused))
	if got := w.client(1); got != (api.ClientLook{Number: 1, Waits: true, Op: count}) {
		t.Error(got)
	}
}

// Bytes that do not decode: they come, and nothing else.
func TestSpoiltReplyAndTold(t *testing.T) {
	w := paired(t, setupOf(three, 0), submit(0, write(7, "a")), query(0, 0, count))
	w.give(0, api.KindRequest)
	w.give(1, api.KindPrepare)
	w.give(0, api.KindQuery)
	w.give(0, api.KindPrepareOK)
	before := w.client(0)
	for _, k := range []api.Kind{api.KindReply, api.KindTold} {
		at := w.find(7, k)
		w.do(copyOf(at))
		w.do(spoilt(at, 13, 1))
		if _, e := message.Decode(three, w.u.Pool()[at].Bytes); e == api.OK {
			t.Fatal("that is not spoilt")
		}
		w.expect(deliver(at, 0), taken(w.u.Pool()[at]))
		if got := w.client(0); got != before {
			t.Fatal(got)
		}
	}
	w.give(7, api.KindTold)
	w.give(7, api.KindReply)
	if got := w.client(0); got.Waits || got.Asks || got.Seen != 1 {
		t.Error(got)
	}
}

// tellable: client 0 has made a write, which replica 0 has carried out, and the others have not.
func tellable(t *testing.T) *pair {
	t.Helper()
	w := paired(t, setupOf(three, 0, 0), submit(0, write(7, "a")))
	w.give(0, api.KindRequest)
	w.give(1, api.KindPrepare)
	w.give(0, api.KindPrepareOK)
	return w
}

func toldBy(t *testing.T, node, commit, number int, result api.Result) api.Packet {
	t.Helper()
	return packet(t, three, node, 7, api.Msg{Kind: api.KindTold, Node: node, Commit: commit, Entry: entry(0, number, api.Op{}), Result: result})
}

// A Told with a Commit below what the client has seen meanwhile: nothing, and it goes on asking.
func TestToldBelowSeen(t *testing.T) {
	w := tellable(t)
	w.do(query(0, 2, read(7)))
	w.give(2, api.KindQuery)
	w.give(7, api.KindReply) // Seen is 1 now
	none := api.Result{Code: api.ResNone, Slot: 7}
	w.expect(deliver(w.find(7, api.KindTold), 0), taken(toldBy(t, 2, 0, 1, none)))
	if got := w.client(0); got != (api.ClientLook{Number: 1, Op: write(7, "a"), Result: written, Seen: 1, Queries: 1, Asks: true, Query: read(7)}) {
		t.Error(got)
	}
}

// One at it, and one above it.
func TestToldAtAndAboveSeen(t *testing.T) {
	w := tellable(t)
	none, found := api.Result{Code: api.ResNone, Slot: 7}, api.Result{Code: api.ResFound, Slot: 7, Value: "a"}
	w.do(query(0, 2, read(7)))
	w.give(2, api.KindQuery)
	row := api.Seen{Kind: api.SeenTold, Node: 2, Place: 0, Entry: entry(0, 1, read(7)), Result: none}
	w.expect(deliver(w.find(7, api.KindTold), 0), taken(toldBy(t, 2, 0, 1, none)), row)
	if got := w.client(0); got != (api.ClientLook{Number: 1, Waits: true, Op: write(7, "a"), Queries: 1, Query: read(7), Told: none}) {
		t.Error(got)
	}
	w.do(query(0, 0, read(7)))
	if got := w.client(0); got != (api.ClientLook{Number: 1, Waits: true, Op: write(7, "a"), Queries: 2, Asks: true, Query: read(7)}) {
		t.Error(got)
	}
	w.give(0, api.KindQuery)
	row = api.Seen{Kind: api.SeenTold, Node: 0, Place: 1, Entry: entry(0, 2, read(7)), Result: found}
	w.expect(deliver(w.find(7, api.KindTold), 0), taken(toldBy(t, 0, 1, 2, found)), row)
	if got := w.client(0); got != (api.ClientLook{Number: 1, Waits: true, Op: write(7, "a"), Seen: 1, Queries: 2, Query: read(7), Told: found}) {
		t.Error(got)
	}
	w.give(7, api.KindReply) // behind the reading: Seen stays
	if got := w.client(0); got.Waits || got.Seen != 1 {
		t.Error(got)
	}
}

// A Told to an older query, and one to a client that does not ask: nothing.
func TestToldOfAnOlderQuery(t *testing.T) {
	w := tellable(t)
	w.do(query(0, 0, read(7)))
	w.give(0, api.KindQuery)
	w.do(query(0, 0, count))
	found := api.Result{Code: api.ResFound, Slot: 7, Value: "a"}
	w.do(copyOf(w.find(7, api.KindTold)))
	w.expect(deliver(w.find(7, api.KindTold), 0), taken(toldBy(t, 0, 1, 1, found)))
	if got := w.client(0); !got.Asks || got.Queries != 2 || got.Told != (api.Result{}) || got.Seen != 0 {
		t.Error(got)
	}
	w.do(drop(w.find(7, api.KindTold)))
	w.give(0, api.KindQuery)
	w.do(copyOf(w.find(7, api.KindTold)))
	counted := api.Result{Code: api.ResCount, Slot: 1}
	w.give(7, api.KindTold)
	if got := w.client(0); got.Asks || got.Told != counted || got.Seen != 1 {
		t.Error(got)
	}
	w.expect(deliver(w.find(7, api.KindTold), 0), taken(toldBy(t, 0, 1, 2, counted)))
}

// A Reply with a place below what the client was told already leaves Seen.
func TestReplyBelowSeen(t *testing.T) {
	w := paired(t, setupOf(three, 0, 0), submit(0, write(7, "a")), submit(1, write(8, "b")))
	w.give(0, api.KindRequest)
	w.give(0, api.KindRequest)
	for range 2 {
		w.give(1, api.KindPrepare)
		w.give(0, api.KindPrepareOK)
	}
	w.do(query(0, 0, count))
	w.give(0, api.KindQuery)
	w.give(7, api.KindTold)
	if got := w.client(0); got.Seen != 2 || !got.Waits {
		t.Fatal(got)
	}
	w.give(7, api.KindReply) // its Place is 1
	if got := w.client(0); got.Seen != 2 || got.Waits || got.Result != written {
		t.Error(got)
	}
}

// What a replica sends to a client that there isn't is Sent, and lost.
func TestClientThatThereIsNot(t *testing.T) {
	w := paired(t, setupOf(three, 0))
	made := entry(1, 1, write(7, "z"))
	w.expect(inject(0, 7, frame(t, three, api.Msg{Kind: api.KindRequest, Entry: made})))
	w.do(deliver(0, 0))
	w.give(1, api.KindPrepare)
	told := reply(t, three, 0, 1, made, api.Result{Code: api.ResWritten, Slot: 7, Value: "z"})
	at := w.find(0, api.KindPrepareOK)
	w.expect(deliver(at, 0), taken(prepareOK(t, three, 1, 1)), done(0, 0, 1, made), sent(told), sent(commit(t, three, 1, 1)), sent(commit(t, three, 2, 1)))
	for _, p := range w.u.Pool() {
		if p.To > 7 {
			t.Error(p)
		}
	}
	w.do(inject(0, 7, frame(t, three, api.Msg{Kind: api.KindQuery, Entry: entry(15, math.MaxInt, count)})))
	pool := len(w.u.Pool())
	read := packet(t, three, 0, 22, api.Msg{Kind: api.KindTold, Commit: 1, Entry: entry(15, math.MaxInt, api.Op{}), Result: api.Result{Code: api.ResCount, Slot: 1}})
	w.expect(deliver(pool-1, 0), taken(w.u.Pool()[pool-1]), sent(read))
	if len(w.u.Pool()) != pool-1 {
		t.Error(w.u.Pool())
	}
	// It counts among the sends of a step that is cut.
	w.do(inject(0, 1, frame(t, three, api.Msg{Kind: api.KindRequest, Entry: made})))
	at = len(w.u.Pool()) - 1
	w.expect(deliver(at, 2), taken(w.u.Pool()[at]), sent(told), down(0))
}
