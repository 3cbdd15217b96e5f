package normal

import (
	"amnesia/api"
	"amnesia/client"
	"amnesia/ledger"
	"amnesia/oplog"
	"amnesia/tally"
)

// heard is a turn that a message makes, which was admitted by a replica that does not recover.
type heard struct {
	turn
	msg api.Msg
}

// handler is what a message of one kind does.
type handler struct {
	handle func(*heard)
}

// handlerOf: this layer's kinds alone have one.
func handlerOf(kind api.Kind) handler {
	handlers := [...]handler{
		api.KindRequest:   {handle: handleRequest},
		api.KindPrepare:   {handle: handlePrepare},
		api.KindPrepareOK: {handle: handlePrepareOK},
		api.KindCommit:    {handle: handleCommit},
		api.KindQuery:     {handle: handleQuery},
	}
	return handlers[kind]
}

func handleRequest(h *heard) {
	if !h.leads() {
		return
	}
	asked := h.msg.Entry
	verdict, result, _ := client.Ask(h.state.Log, h.state.Commit, asked.Client, asked.Number) // all of these may be, as state and message may
	switch verdict {
	case api.VerdictDone:
		h.reply(oplog.Find(h.state.Log, asked.Client, asked.Number), result)
	case api.VerdictFresh:
		h.enter(asked)
	}
}

// enter: a fresh request, which may stand behind the log if there is room for it.
func (h *heard) enter(asked api.Entry) {
	if !h.extend(asked) {
		h.reply(0, api.Result{Code: api.ResRefused})
		return
	}
	h.sendAll(h.prepare(h.end()))
}

func handlePrepare(h *heard) {
	if !h.follows() {
		return
	}
	next := h.end() + 1
	if h.msg.Place == next && !h.extend(h.msg.Entry) {
		return
	}
	h.carry(min(h.msg.Commit, h.end()))
	if h.msg.Place > next {
		h.askState(h.state.View)
		return
	}
	h.sendOne(h.msg.Node, api.Msg{Kind: api.KindPrepareOK, View: h.state.View, Place: h.end()})
}

func handlePrepareOK(h *heard) {
	if !h.leads() || h.msg.View != h.state.View || h.msg.Place == 0 || h.msg.Place > h.end() {
		return
	}
	node := h.msg.Node
	h.state.Acks = tally.PutAck(h.state.Acks, api.Ack{Node: node, Draw: h.state.Vector[node], Place: h.msg.Place})
	reached := tally.Reached(h.config.F, h.end(), h.state.Acks)
	if reached > h.state.Commit {
		h.carry(reached)
		h.tellCommit()
	}
}

func handleCommit(h *heard) {
	if !h.follows() {
		return
	}
	h.carry(min(h.msg.Commit, h.end()))
	if h.msg.Commit > h.end() {
		h.askState(h.state.View)
	}
}

func handleQuery(h *heard) {
	if h.state.Status != api.StatusNormal || h.state.Commit < h.msg.Place {
		return
	}
	cells, _, _ := oplog.Replay(h.state.Log, h.state.Commit)
	carriedOut, _ := ledger.From(cells) // a ledger's own cells are taken back
	h.sendClient(api.Msg{
		Kind: api.KindTold, View: h.state.View, Commit: h.state.Commit,
		Entry: h.asker(), Result: carriedOut.Would(h.msg.Entry.Op),
	})
}

// follows: has a backup heard from the primary that it follows? Then its patience begins anew. One that is not in that view yet, or not normal in it, asks for its state.
func (h *heard) follows() bool {
	switch {
	case h.msg.View < h.state.View:
		return false
	case h.msg.View > h.state.View || h.state.Status == api.StatusChange:
		h.askState(h.msg.View)
		return false
	}
	h.state.Idle = 0
	return true
}

// askState: the message's sender is asked for all that it has in a view.
func (h *heard) askState(view int) {
	h.sendOne(h.msg.Node, api.Msg{Kind: api.KindGetState, View: view})
}

// reply: the client is answered; a place of 0 is no place of the log.
func (h *heard) reply(place int, result api.Result) {
	h.sendClient(api.Msg{Kind: api.KindReply, View: h.state.View, Place: place, Entry: h.asker(), Result: result})
}

// asker: whose request the message is, and its number, without what was asked for.
func (h *heard) asker() api.Entry {
	return api.Entry{Client: h.msg.Entry.Client, Number: h.msg.Entry.Number}
}
