package normal

import (
	"amnesia/api"
	"amnesia/core"
	"amnesia/oplog"
)

// turn is what a replica's step has at hand, whatever it is about: the configuration, the state so far and what goes out so far. The state may be all along, and addresses are those of others and of clients that may be: so core, which is asked for each step's part, has no error to tell.
type turn struct {
	config api.Config
	state  api.State
	sends  []api.Send
}

// leads: is it the primary of a view that has begun?
func (t *turn) leads() bool {
	return t.state.Status == api.StatusNormal && t.state.Self == core.Primary(t.config, t.state.View)
}

// end: the place of the log's last entry.
func (t *turn) end() int { return len(t.state.Log) }

func (t *turn) sendOne(to int, m api.Msg) {
	send, _ := core.One(t.config, t.state, to, m)
	t.sends = append(t.sends, send)
}

func (t *turn) sendAll(m api.Msg) {
	sends, _ := core.All(t.config, t.state, m)
	t.sends = append(t.sends, sends...)
}

// sendClient: to the client whose request the message names.
func (t *turn) sendClient(m api.Msg) {
	t.sendOne(api.MaxNodes+m.Entry.Client, m)
}

// extend: the entry stands behind the log; false, and nothing changes, if it can't.
func (t *turn) extend(entry api.Entry) bool {
	log, e := oplog.Append(t.state.Log, t.config.Room, entry)
	if e != api.OK {
		return false
	}
	t.state.Log = log
	return true
}

// carry: what stands up to a place of the log is committed; a place that is carried out already changes nothing.
func (t *turn) carry(to int) {
	state, replies, _ := core.Carry(t.config, t.state, to)
	t.state = state
	t.sends = append(t.sends, replies...)
}

// prepare: the entry at a place of the log, as the primary tells it.
func (t *turn) prepare(place int) api.Msg {
	return api.Msg{Kind: api.KindPrepare, View: t.state.View, Entry: t.state.Log[place-1], Place: place, Commit: t.state.Commit}
}

func (t *turn) tellCommit() {
	t.sendAll(api.Msg{Kind: api.KindCommit, View: t.state.View, Commit: t.state.Commit})
}

// prepareAgain: each of the others is told what is neither committed nor acknowledged by it.
func (t *turn) prepareAgain() {
	for node := range core.Nodes(t.config) {
		if node == t.state.Self {
			continue
		}
		for place := max(t.state.Commit, t.acknowledged(node)) + 1; place <= t.end(); place++ {
			t.sendOne(node, t.prepare(place))
		}
	}
}

// acknowledged: the place up to which a replica has acknowledged; 0: none.
func (t *turn) acknowledged(node int) int {
	for _, ack := range t.state.Acks {
		if ack.Node == node {
			return ack.Place
		}
	}
	return 0
}
