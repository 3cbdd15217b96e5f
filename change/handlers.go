package change

import (
	"amnesia/api"
	"amnesia/tally"
)

// heard is a turn that a message makes, which was admitted by a replica that does not recover.
type heard struct {
	turn
	msg api.Msg
}

// handler is what a message of one kind does.
type handler struct {
	handle func(*heard)
}

// handlerOf: this layer's kinds alone have one.
func handlerOf(kind api.Kind) handler {
	handlers := [...]handler{
		api.KindStartViewChange: {handle: handleStart},
		api.KindDoViewChange:    {handle: handleVote},
		api.KindStartView:       {handle: handleInstall},
	}
	return handlers[kind]
}

func handleStart(h *heard) {
	if !h.comesAlong() {
		return
	}
	voted := h.isMarked()
	h.state.Marks = tally.PutMark(h.state.Marks, api.Mark{Node: h.msg.Node, Draw: h.draw()})
	if h.isMarked() && !voted {
		h.vote()
	}
}

func handleVote(h *heard) {
	if !h.comesAlong() || !h.isPrimary() {
		return
	}
	h.state.Ballots = tally.PutBallot(h.state.Ballots, api.Ballot{
		Node: h.msg.Node, Draw: h.draw(), Last: h.msg.Last, Commit: h.msg.Commit, Log: h.msg.Log,
	})
	own := api.Ballot{Node: h.state.Self, Last: h.state.Last, Commit: h.state.Commit, Log: h.state.Log}
	if chosen, e := tally.Choose(h.config.F, own, h.state.Ballots); e == api.OK { // ErrNone: there are fewer than F
		h.lead(chosen)
	}
}

func handleInstall(h *heard) {
	if h.isPast() {
		return
	}
	h.state.View = h.msg.View
	h.enter(h.msg.Log)
	h.carry(h.msg.Commit)
	if end := len(h.state.Log); end > h.state.Commit {
		h.toPrimary(api.Msg{Kind: api.KindPrepareOK, View: h.state.View, Place: end})
	}
}

// lead: the view begins with the chosen log. Clients hear behind the others what is carried out by it.
func (h *heard) lead(chosen api.Ballot) {
	h.enter(chosen.Log)
	h.toAll(api.Msg{Kind: api.KindStartView, View: h.state.View, Log: chosen.Log, Commit: chosen.Commit})
	h.carry(chosen.Commit)
}

// comesAlong: is the replica changing to the message's view, if need be since it has heard of it just now?
func (h *heard) comesAlong() bool {
	if h.isPast() {
		return false
	}
	if h.msg.View > h.state.View {
		h.goTo(h.msg.View)
	}
	return true
}

// isPast: is the message about a view that this replica has behind it, or that has begun for it?
func (h *heard) isPast() bool {
	return h.msg.View < h.state.View || h.msg.View == h.state.View && h.state.Status == api.StatusNormal
}

// draw: of which life the message's sender is, as far as this replica looks at that.
func (h *heard) draw() api.Draw { return h.state.Vector[h.msg.Node] }
