package change

import (
	"amnesia/api"
	"amnesia/core"
	"amnesia/tally"
)

// turn is what a replica's step has at hand, whatever it is about: the configuration, the state so far and what goes out so far. Whenever core is asked for a step's part, the state may be, and addresses are those of others: so it has no error to tell.
type turn struct {
	config api.Config
	state  api.State
	sends  []api.Send
}

func (t *turn) primary() int { return core.Primary(t.config, t.state.View) }

func (t *turn) isPrimary() bool { return t.state.Self == t.primary() }

// isMarked: have enough others called for the view?
func (t *turn) isMarked() bool { return tally.Marked(t.config.F, t.state.Marks) }

// toPrimary: to the primary of the view, which is another one.
func (t *turn) toPrimary(m api.Msg) {
	send, _ := core.One(t.config, t.state, t.primary(), m)
	t.sends = append(t.sends, send)
}

func (t *turn) toAll(m api.Msg) {
	sends, _ := core.All(t.config, t.state, m)
	t.sends = append(t.sends, sends...)
}

// carry: what stands up to a place of the log is committed; a place that is carried out already changes nothing. The state is new memory behind it, its log too.
func (t *turn) carry(to int) {
	state, replies, _ := core.Carry(t.config, t.state, to)
	t.state = state
	t.sends = append(t.sends, replies...)
}

// goTo: a later view is called for; what it was last normal with stays.
func (t *turn) goTo(view int) {
	t.state.Status, t.state.View = api.StatusChange, view
	t.beginAnew()
	t.call()
}

// enter: the view has begun, with this log. What was carried out beyond its end is not: no run that keeps the premises has that.
func (t *turn) enter(log []api.Entry) {
	t.state.Status, t.state.Last = api.StatusNormal, t.state.View
	t.state.Log, t.state.Commit = log, min(t.state.Commit, len(log))
	t.beginAnew()
}

// beginAnew: neither the patience nor votes go over into what comes next.
func (t *turn) beginAnew() {
	t.state.Idle = 0
	t.state.Acks, t.state.Marks, t.state.Ballots, t.state.Answers = nil, nil, nil, nil
}

// call: all others are called to the view.
func (t *turn) call() {
	t.toAll(api.Msg{Kind: api.KindStartViewChange, View: t.state.View})
}

// vote: the view's primary is given all that this replica has; what that one has itself it need not send.
func (t *turn) vote() {
	if t.isPrimary() {
		return
	}
	t.toPrimary(api.Msg{Kind: api.KindDoViewChange, View: t.state.View, Last: t.state.Last, Commit: t.state.Commit, Log: t.state.Log})
}
