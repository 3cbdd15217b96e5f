package rejoin

import (
	"amnesia/api"
	"amnesia/tally"
)

// heard is a turn that a message makes, which was admitted.
type heard struct {
	turn
	msg api.Msg
}

// handler is what a message of one kind does.
type handler struct {
	handle func(*heard)
}

// handlerOf: this layer's kinds alone have one.
func handlerOf(kind api.Kind) handler {
	handlers := [...]handler{
		api.KindRecovery:         {handle: handleRecovery},
		api.KindRecoveryResponse: {handle: handleResponse},
		api.KindGetState:         {handle: handleGetState},
		api.KindNewState:         {handle: handleNewState},
	}
	return handlers[kind]
}

func handleRecovery(h *heard) {
	if h.state.Status != api.StatusNormal {
		return
	}
	answer := api.Msg{Kind: api.KindRecoveryResponse, View: h.state.View, Draw: h.msg.Draw}
	if h.isPrimaryOf(h.state.View) {
		answer.Log, answer.Commit = h.state.Log, h.state.Commit
	}
	h.to(h.msg.Node, answer)
}

// handleResponse: an answer to an earlier life's question may be from before what that life has done, so it does not count.
func handleResponse(h *heard) {
	if h.state.Status != api.StatusRecovering || h.msg.Draw != h.ownDraw() {
		return
	}
	h.state.Answers = tally.PutAnswer(h.state.Answers, api.Answer{
		Node: h.msg.Node, Draw: h.state.Vector[h.msg.Node], View: h.msg.View, Commit: h.msg.Commit, Log: h.msg.Log,
	})
	if settled, e := tally.Settle(h.config.F, h.state.Answers); e == api.OK { // ErrNone: it goes on waiting
		h.takeOver(settled.View, settled.Log, settled.Commit)
	}
}

func handleGetState(h *heard) {
	if h.state.Status != api.StatusNormal || h.msg.View != h.state.View {
		return
	}
	h.to(h.msg.Node, api.Msg{Kind: api.KindNewState, View: h.state.View, Log: h.state.Log, Commit: h.state.Commit})
}

func handleNewState(h *heard) {
	if h.state.Status == api.StatusRecovering || h.isPrimaryOf(h.msg.View) || !h.isBehind() {
		return
	}
	h.takeOver(h.msg.View, h.msg.Log, h.msg.Commit)
}

// isBehind: has the message what this replica lacks: a later view, the view that it is changing to, or more of the log?
func (h *heard) isBehind() bool {
	if h.msg.View != h.state.View {
		return h.msg.View > h.state.View
	}
	return h.state.Status != api.StatusNormal || len(h.msg.Log) > len(h.state.Log)
}
