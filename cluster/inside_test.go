package cluster

import (
	"math"
	"testing"

	"amnesia/api"
	"amnesia/message"
)

// What no script leads to: a client with the greatest number of queries, and messages that no replica sends to a client. These are laid into the cluster by hand.

var group = api.Config{F: 1, Room: 4, Patience: 6}

func begun(t *testing.T, clients int) *Cluster {
	t.Helper()
	u, e := New(api.Setup{Config: group, Clients: make([]api.ClientSetup, clients)})
	if e != api.OK {
		t.Fatal(e)
	}
	return u
}

func TestGreatestQuery(t *testing.T) {
	u := begun(t, 2)
	u.clients[1].Queries = math.MaxInt - 1
	reads := api.Event{Kind: api.EventQuery, Client: 1, Node: 2, Op: api.Op{Kind: api.OpCount}}
	if rows, e := u.Do(reads); e != api.OK || len(rows) != 1 {
		t.Fatal(rows, e)
	}
	look, _ := u.Client(1)
	if want := (api.ClientLook{Queries: math.MaxInt, Asks: true, Query: reads.Op}); look != want {
		t.Fatal(look)
	}
	if rows, e := u.Do(reads); e != api.ErrEvent || len(rows) != 0 || u.Events() != 1 {
		t.Error(rows, e)
	}
	if after, _ := u.Client(1); after != look {
		t.Error(after)
	}
	u.Do(api.Event{Kind: api.EventRound, Count: 2})
	if look, _ = u.Client(1); look.Asks || look.Told != (api.Result{Code: api.ResCount}) {
		t.Error(look)
	}
	if _, e := u.Do(reads); e != api.ErrEvent {
		t.Error(e)
	}
	reads.Client = 0
	if _, e := u.Do(reads); e != api.OK {
		t.Error(e)
	}
}

// comesToClient: a client, its third request and its second query under way, having seen place 2, to which that message comes: how many rows are seen behind Taken.
func comesToClient(t *testing.T, m api.Msg) (api.ClientLook, []api.Seen) {
	t.Helper()
	u := begun(t, 2)
	u.clients[1] = waiting
	frame, e := message.Encode(group, m)
	if e != api.OK {
		t.Fatal(e, m)
	}
	if e := u.net.Inject(api.Packet{From: 2, To: api.MaxNodes + 1, Bytes: frame}); e != api.OK {
		t.Fatal(e)
	}
	rows, _ := u.Do(api.Event{Kind: api.EventDeliver, Cut: 1})
	if len(rows) == 0 || rows[0].Kind != api.SeenTaken || rows[0].Packet.To != api.MaxNodes+1 || u.clients[0] != (api.ClientLook{}) {
		t.Fatal(rows, u.clients)
	}
	return u.clients[1], rows[1:]
}

var waiting = api.ClientLook{Number: 3, Waits: true, Op: api.Op{Kind: api.OpRead, Slot: 5}, Seen: 2, Queries: 2, Asks: true, Query: api.Op{Kind: api.OpCount}}

func TestEveryMessageAtAClient(t *testing.T) {
	vector := make(api.Vector, 3)
	entry := api.Entry{Client: 1, Number: 3, Op: api.Op{Kind: api.OpRead, Slot: 5}}
	drawn := api.Vector{{}, {}, {Lo: 4}}
	for _, m := range []api.Msg{ // all but the two that are for clients
		{Kind: api.KindRequest, Entry: entry}, {Kind: api.KindQuery, Place: 1, Entry: api.Entry{Client: 1, Number: 2, Op: api.Op{Kind: api.OpCount}}},
		{Kind: api.KindPrepare, Entry: entry, Place: 1, Vector: vector}, {Kind: api.KindPrepareOK, Node: 2, Place: 3, Vector: vector}, {Kind: api.KindCommit, Commit: 3, Vector: vector},
		{Kind: api.KindStartViewChange, Node: 2, View: 1, Vector: vector}, {Kind: api.KindDoViewChange, Node: 2, View: 1, Vector: vector}, {Kind: api.KindStartView, Node: 1, View: 1, Vector: vector},
		{Kind: api.KindRecovery, Node: 2, Draw: api.Draw{Lo: 4}, Vector: drawn}, {Kind: api.KindRecoveryResponse, Node: 2, Draw: api.Draw{Lo: 4}, Vector: vector},
		{Kind: api.KindGetState, Node: 2, Vector: vector}, {Kind: api.KindNewState, Node: 2, Vector: vector},
	} {
		if look, rows := comesToClient(t, m); look != waiting || len(rows) != 0 {
			t.Error(m, look, rows)
		}
	}
}

func TestEveryReplyAtAClient(t *testing.T) {
	for _, code := range []int{api.ResWritten, api.ResTaken, api.ResFull, api.ResFound, api.ResNone, api.ResCount} {
		for place := 1; place <= 4; place++ {
			m := api.Msg{Kind: api.KindReply, Node: 2, View: 5, Place: place, Entry: api.Entry{Client: 1, Number: 3}, Result: api.Result{Code: code}}
			want := waiting
			want.Waits, want.Result, want.Seen = false, m.Result, max(2, place)
			if look, rows := comesToClient(t, m); look != want || len(rows) != 1 || rows[0].Kind != api.SeenReply || rows[0].Entry != m.Entry || rows[0].Result != m.Result || rows[0].Node != 0 || rows[0].Place != 0 {
				t.Error(m, look, rows)
			}
		}
	}
	right := api.Msg{Kind: api.KindReply, Node: 2, View: 5, Place: 3, Entry: api.Entry{Client: 1, Number: 3}, Result: api.Result{Code: api.ResFull}}
	for what, change := range map[string]func(*api.Msg){
		"another client": func(m *api.Msg) { m.Entry.Client = 0 }, "a client that there isn't": func(m *api.Msg) { m.Entry.Client = 15 },
		"an older number": func(m *api.Msg) { m.Entry.Number = 2 }, "a later one": func(m *api.Msg) { m.Entry.Number = math.MaxInt },
		"refused": func(m *api.Msg) { m.Place, m.Result = 0, api.Result{Code: api.ResRefused} },
	} {
		m := right
		change(&m)
		if look, rows := comesToClient(t, m); look != waiting || len(rows) != 0 {
			t.Error(what, look, rows)
		}
	}
}

func TestEveryToldAtAClient(t *testing.T) {
	right := api.Msg{Kind: api.KindTold, Node: 2, View: 5, Commit: 3, Entry: api.Entry{Client: 1, Number: 2}, Result: api.Result{Code: api.ResCount, Slot: 9}}
	for commit := range 5 {
		m := right
		m.Commit = commit
		look, rows := comesToClient(t, m)
		if commit < waiting.Seen {
			if look != waiting || len(rows) != 0 {
				t.Error(commit, look, rows)
			}
			continue
		}
		want := waiting
		want.Asks, want.Told, want.Seen = false, m.Result, commit
		told := api.Entry{Client: 1, Number: 2, Op: waiting.Query}
		if look != want || len(rows) != 1 || rows[0].Kind != api.SeenTold || rows[0].Node != 2 || rows[0].Place != commit || rows[0].Entry != told || rows[0].Result != m.Result || rows[0].View != 0 {
			t.Error(commit, look, rows)
		}
	}
	for what, change := range map[string]func(*api.Msg){
		"another client": func(m *api.Msg) { m.Entry.Client = 0 }, "an older query": func(m *api.Msg) { m.Entry.Number = 1 }, "a later one": func(m *api.Msg) { m.Entry.Number = 3 },
	} {
		m := right
		change(&m)
		if look, rows := comesToClient(t, m); look != waiting || len(rows) != 0 {
			t.Error(what, look, rows)
		}
	}
}
