package rejoin

import (
	"amnesia/api"
	"amnesia/core"
)

// turn is what a replica's step has at hand, whatever it is about: the configuration, the state so far and what goes out so far.
type turn struct {
	config api.Config
	state  api.State
	sends  []api.Send
}

func (t *turn) isPrimaryOf(view int) bool { return t.state.Self == core.Primary(t.config, view) }

// ownDraw: the number of this life.
func (t *turn) ownDraw() api.Draw { return t.state.Vector[t.state.Self] }

func (t *turn) to(address int, m api.Msg) {
	send, e := core.One(t.config, t.state, address, m)
	sure(e)
	t.sends = append(t.sends, send)
}

func (t *turn) toAll(m api.Msg) {
	sends, e := core.All(t.config, t.state, m)
	sure(e)
	t.sends = append(t.sends, sends...)
}

// ask: all others are asked what there is, by one that has nothing but the draw of its life.
func (t *turn) ask() {
	if t.state.Status != api.StatusRecovering {
		giveUp(api.ErrStatus)
	}
	t.toAll(api.Msg{Kind: api.KindRecovery, Draw: t.ownDraw()})
}

// takeOver: it is normal in the view of another primary, with this whole log; what it has beyond the committed is acknowledged, since no Prepare of it may come any more. What was carried out beyond the log's end is not: no run that keeps the premises has that.
func (t *turn) takeOver(view int, log []api.Entry, commit int) {
	t.state.Status, t.state.View, t.state.Last, t.state.Idle = api.StatusNormal, view, view, 0
	t.state.Log, t.state.Commit = log, min(t.state.Commit, len(log))
	t.state.Acks, t.state.Marks, t.state.Ballots, t.state.Answers = nil, nil, nil, nil
	t.carry(commit)
	if end := len(t.state.Log); end > t.state.Commit {
		t.to(core.Primary(t.config, view), api.Msg{Kind: api.KindPrepareOK, View: view, Place: end})
	}
}

// carry: what stands up to a place of the log is committed; a place that is carried out already changes nothing. The state is new memory behind it, its log too.
func (t *turn) carry(to int) {
	state, _, e := core.Carry(t.config, t.state, to) // to clients a primary alone replies, and nobody is one here
	sure(e)
	t.state = state
}
