package core

import (
	"amnesia/api"
	"amnesia/client"
	"amnesia/message"
	"amnesia/tally"
	"amnesia/vector"
)

// firstVector: the crash vector of a group in which nobody has begun again. ErrConfig, or ErrArg: there is no replica self.
func firstVector(c api.Config, self int) (api.Vector, api.Errno) {
	switch {
	case CheckConfig(c) != api.OK:
		return nil, api.ErrConfig
	case !within(self, 0, Nodes(c)-1):
		return nil, api.ErrArg
	}
	return vector.New(Nodes(c))
}

// mayHear: does neither this replica know that the message's life is over, nor the message that this replica's is?
func mayHear(s api.State, m api.Msg) bool {
	mine, theirs := api.Voice{Node: s.Self, Vector: s.Vector}, api.Voice{Node: m.Node, Vector: m.Vector}
	return !vector.Over(s.Vector, theirs) && !vector.Over(m.Vector, mine)
}

// knowing: the state with v as its crash vector, without the votes of lives that are over by it. All of it is new memory, as what tally answers is.
func knowing(s api.State, v api.Vector) api.State {
	s.Log, s.Vector = fresh(s.Log), fresh(v)
	s.Acks, s.Marks = tally.PruneAcks(s.Acks, v), tally.PruneMarks(s.Marks, v)
	s.Ballots, s.Answers = tally.PruneBallots(s.Ballots, v), tally.PruneAnswers(s.Answers, v)
	return s
}

// copied: a state that may be, in new memory. It has no votes of lives that its own crash vector knows to be over, so none falls out.
func copied(s api.State) api.State { return knowing(s, s.Vector) }

// fresh: a list in new memory, without room behind it.
func fresh[L ~[]E, E any](l L) L {
	c := make(L, len(l))
	copy(c, l)
	return c
}

// replies: a primary's answers to what stands behind its commit number, up to the place to.
func replies(s api.State, to int) []api.Send {
	rows, _ := client.Between(s.Log, s.Commit, to) // the log and both places may be, as the state does
	sends := make([]api.Send, len(rows))
	for i, row := range rows {
		sends[i] = outgoing(s, api.MaxNodes+row.Client, api.Msg{
			Kind: api.KindReply, View: s.View, Place: row.Place,
			Entry: api.Entry{Client: row.Client, Number: row.Number}, Result: row.Result,
		})
	}
	return sends
}

// outgoing: a message on its way from this replica, with lists of its own.
func outgoing(s api.State, to int, m api.Msg) api.Send {
	m.Node = s.Self
	if message.Between(m.Kind) {
		m.Vector = s.Vector
	}
	m.Log, m.Vector = fresh(m.Log), fresh(m.Vector)
	return api.Send{To: to, Msg: m}
}

// isAddress: a replica's number, or a client's behind those of the greatest group.
func isAddress(c api.Config, to int) bool {
	return within(to, 0, Nodes(c)-1) || within(to, api.MaxNodes, api.MaxNodes+api.MaxClients-1)
}
