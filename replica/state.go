package replica

import (
	"amnesia/api"
	"amnesia/change"
	"amnesia/core"
	"amnesia/message"
	"amnesia/normal"
	"amnesia/rejoin"
)

// state is all that a replica keeps: its group, and what it has now. A step lays a new one in its place, and never writes into the lists of the old one. (Its fields are this package's alone, so that nobody reaches them through the object that embeds it.)
type state struct {
	group api.Config
	now   api.State
}

// call is a step of the layers below, by a message of one kind.
type call func(api.Config, api.State, api.Msg) (api.State, []api.Send, api.Errno)

// callOf: what each kind does. Every message that decodes is of one of these.
func callOf(kind api.Kind) call {
	calls := [...]call{
		api.KindRequest:          normal.Request,
		api.KindReply:            stay,
		api.KindPrepare:          normal.Prepare,
		api.KindPrepareOK:        normal.PrepareOK,
		api.KindCommit:           normal.Commit,
		api.KindStartViewChange:  change.Start,
		api.KindDoViewChange:     change.Vote,
		api.KindStartView:        change.Install,
		api.KindRecovery:         rejoin.Recovery,
		api.KindRecoveryResponse: rejoin.Response,
		api.KindGetState:         rejoin.GetState,
		api.KindNewState:         rejoin.NewState,
		api.KindQuery:            normal.Query,
		api.KindTold:             stay,
	}
	return calls[kind]
}

// stay: what is for clients does nothing to a replica.
func stay(_ api.Config, s api.State, _ api.Msg) (api.State, []api.Send, api.Errno) {
	return s, nil, api.OK
}

// hear: a frame comes. One that does not decode gives up ahead of all else.
func (k *state) hear(frame []byte) []api.Packet {
	m, e := message.Decode(k.group, frame)
	sure(e)
	does := callOf(m.Kind)
	return k.become(does(k.group, k.now, m))
}

func (k *state) tick() []api.Packet {
	switch {
	case k.now.Status == api.StatusRecovering:
		return k.become(rejoin.Ask(k.group, k.now))
	case k.leads():
		return k.become(normal.Beat(k.group, k.now))
	}
	waited, end, e := core.Wait(k.group, k.now)
	sure(e)
	if end {
		return k.become(change.Suspect(k.group, waited))
	}
	return k.become(goOnWaiting(k.group, waited))
}

// goOnWaiting: who is changing calls for its view once more, since the first call may be lost; a backup has nothing to say.
func goOnWaiting(c api.Config, s api.State) (api.State, []api.Send, api.Errno) {
	if s.Status != api.StatusChange {
		return s, nil, api.OK
	}
	sends, e := change.Again(c, s)
	return s, sends, e
}

// leads: is it the primary of a view that has begun?
func (k *state) leads() bool {
	return k.now.Status == api.StatusNormal && k.now.Self == core.Primary(k.group, k.now.View)
}

// become: the state behind a step takes the place of the one ahead of it, if nothing has gone wrong up to the last packet.
func (k *state) become(behind api.State, sends []api.Send, e api.Errno) []api.Packet {
	sure(e)
	out := packed(k.group, behind.Self, sends)
	k.now = behind
	return out
}

// packed: a packet for each message that goes out, in their order.
func packed(c api.Config, self int, sends []api.Send) []api.Packet {
	out := make([]api.Packet, len(sends))
	for i, send := range sends {
		frame, e := message.Encode(c, send.Msg)
		sure(e)
		out[i] = api.Packet{From: self, To: send.To, Bytes: frame}
	}
	return out
}

// copied: the same state in new memory. core.Check's errors.
func copied(c api.Config, s api.State) (api.State, api.Errno) {
	same, _, e := core.Carry(c, s, 0) // nobody's commit number is below 0: nothing is carried out by this
	return same, e
}
