package cluster

import (
	"amnesia/api"
	"amnesia/core"
	"amnesia/message"
)

func (t *turn) see(row api.Seen) {
	row.Event = t.events
	t.seen = append(t.seen, row)
}

// comes: a packet comes to its address.
func (t *turn) comes(p api.Packet, cut int) {
	if p.To >= api.MaxNodes {
		t.takes(p.To-api.MaxNodes, p)
		return
	}
	r := t.replicas[p.To]
	if r == nil {
		return
	}
	t.see(api.Seen{Kind: api.SeenTaken, Packet: p})
	t.step(p.To, cut, func() ([]api.Packet, api.Errno) { return r.Handle(p.Bytes) })
}

// step: a replica that is alive makes a step, which may go wrong: then nothing goes out, and nothing has changed.
func (t *turn) step(node, cut int, move func() ([]api.Packet, api.Errno)) {
	ahead := t.replicas[node].State()
	out, _ := move()
	t.seeStep(ahead, t.replicas[node].State())
	t.goOut(node, cut, out)
}

// seeStep: what a step has done, by the states ahead of it and behind it.
func (t *turn) seeStep(ahead, behind api.State) {
	row := api.Seen{Node: behind.Self, View: behind.View}
	for place := ahead.Commit + 1; place <= behind.Commit; place++ {
		row.Kind, row.Place, row.Entry = api.SeenDone, place, behind.Log[place-1]
		t.see(row)
	}
	row.Place, row.Entry, row.Log = 0, api.Entry{}, behind.Log
	switch {
	case t.starts(ahead, behind):
		row.Kind = api.SeenLead
		t.see(row)
	case ahead.Status == api.StatusRecovering && behind.Status == api.StatusNormal:
		row.Kind = api.SeenBack
		t.see(row)
	}
}

// starts: has a replica started a view between these states? (With F 1 one ballot makes it go to a view, and start it.)
func (t *turn) starts(ahead, behind api.State) bool {
	leads := behind.Status == api.StatusNormal && behind.Self == core.Primary(t.group, behind.View)
	lower := ahead.Status == api.StatusNormal && ahead.View < behind.View
	return leads && (lower || ahead.Status == api.StatusChange)
}

// goOut: what a step sends. With a cut only the first cut - 1 packets do, and then the replica is gone: that is deferred, so that it comes behind the sends, be there any or none.
func (t *turn) goOut(node, cut int, out []api.Packet) {
	if cut > 0 {
		defer t.falls(node)
		out = out[:min(cut-1, len(out))]
	}
	for _, p := range out {
		t.send(p)
	}
}

// falls: a replica is gone, with all that it had.
func (t *turn) falls(node int) {
	t.replicas[node] = nil
	t.see(api.Seen{Kind: api.SeenDown, Node: node})
}

func (t *turn) send(p api.Packet) {
	t.see(api.Seen{Kind: api.SeenSent, Packet: p})
	t.net.Send(p) // it refuses what goes to a client that there isn't: that is lost
}

// request: a client's last request goes to all replicas.
func (t *turn) request(client int) {
	for node := range t.replicas {
		t.asks(client, node, api.Msg{Kind: api.KindRequest, Entry: t.requestOf(client)})
	}
}

func (t *turn) asks(client, node int, m api.Msg) {
	frame, _ := message.Encode(t.group, m) // what a client makes of an event that may be is a message
	t.send(api.Packet{From: api.MaxNodes + client, To: node, Bytes: frame})
}

// requestOf: a client's last request.
func (t *turn) requestOf(client int) api.Entry {
	c := t.clients[client]
	return api.Entry{Client: client, Number: c.Number, Op: c.Op}
}

// queryOf: a client's last query.
func (t *turn) queryOf(client int) api.Entry {
	c := t.clients[client]
	return api.Entry{Client: client, Number: c.Queries, Op: c.Query}
}

// takes: a packet comes to a client, who does nothing but with what it waits for.
func (t *turn) takes(client int, p api.Packet) {
	t.see(api.Seen{Kind: api.SeenTaken, Packet: p})
	m, e := message.Decode(t.group, p.Bytes)
	switch {
	case e != api.OK || m.Entry.Client != client:
		return
	case m.Kind == api.KindReply:
		t.answered(client, m)
	case m.Kind == api.KindTold:
		t.told(client, m)
	}
}

// answered: a reply to the request for which the client waits; one that was refused is none.
func (t *turn) answered(client int, m api.Msg) {
	c := &t.clients[client]
	if !c.Waits || m.Entry.Number != c.Number || m.Result.Code == api.ResRefused {
		return
	}
	c.Waits, c.Result, c.Seen = false, m.Result, max(c.Seen, m.Place)
	t.see(api.Seen{Kind: api.SeenReply, Entry: api.Entry{Client: client, Number: c.Number}, Result: m.Result})
}

// told: a reading that the client asks for, from a ledger that has all that the client has seen already.
func (t *turn) told(client int, m api.Msg) {
	c := &t.clients[client]
	if !c.Asks || m.Entry.Number != c.Queries || m.Commit < c.Seen {
		return
	}
	c.Asks, c.Told, c.Seen = false, m.Result, m.Commit
	t.see(api.Seen{Kind: api.SeenTold, Node: m.Node, Place: m.Commit, Entry: t.queryOf(client), Result: m.Result})
}
