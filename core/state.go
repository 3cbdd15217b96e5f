package core

import (
	"slices"

	"amnesia/api"
	"amnesia/oplog"
	"amnesia/tally"
	"amnesia/vector"
)

// stateMayBe asks for all rules. The later ones lean on the earlier ones: that Self and the voters have entries in Vector.
func stateMayBe(c api.Config, s api.State) bool {
	return numbersMayBe(c, s) && votesMayBe(c, s) && votersLive(s) && keepsStatus(c, s)
}

// numbersMayBe asks for what holds of every status, but for the votes.
func numbersMayBe(c api.Config, s api.State) bool {
	e, _ := oplog.Check(s.Log, c.Room)
	return e == api.OK && vector.Check(s.Vector, Nodes(c)) == api.OK &&
		within(s.Self, 0, Nodes(c)-1) &&
		within(s.View, 0, api.MaxView) && within(s.Last, 0, s.View) &&
		within(s.Commit, 0, len(s.Log)) && within(s.Idle, 0, c.Patience-1)
}

// votesMayBe asks for what holds of votes by themselves, whatever the replica is at.
func votesMayBe(c api.Config, s api.State) bool {
	return tally.CheckAcks(c, s.Self, s.Acks) == api.OK && tally.CheckMarks(c, s.Self, s.Marks) == api.OK &&
		tally.CheckBallots(c, s.Self, s.Ballots) == api.OK && tally.CheckAnswers(c, s.Self, s.Answers) == api.OK
}

// votersLive: is every vote of the life that the crash vector has of its node?
func votersLive(s api.State) bool {
	live := true
lists:
	for _, list := range voters(s) {
		for _, v := range list {
			if v.Draw != s.Vector[v.Node] {
				live = false
				break lists
			}
		}
	}
	return live
}

// voters: of each list of votes who gave them, and in which life.
func voters(s api.State) [4][]api.Stamp {
	return [4][]api.Stamp{
		stamps(s.Acks, func(a api.Ack) api.Stamp { return api.Stamp{Node: a.Node, Draw: a.Draw} }),
		stamps(s.Marks, func(m api.Mark) api.Stamp { return api.Stamp{Node: m.Node, Draw: m.Draw} }),
		stamps(s.Ballots, func(b api.Ballot) api.Stamp { return api.Stamp{Node: b.Node, Draw: b.Draw} }),
		stamps(s.Answers, func(a api.Answer) api.Stamp { return api.Stamp{Node: a.Node, Draw: a.Draw} }),
	}
}

func stamps[V any](votes []V, of func(V) api.Stamp) []api.Stamp {
	told := make([]api.Stamp, len(votes))
	for i, v := range votes {
		told[i] = of(v)
	}
	return told
}

// keepsStatus asks for what a replica may have at what it is at.
func keepsStatus(c api.Config, s api.State) bool {
	switch s.Status {
	case api.StatusNormal:
		return normalMayBe(c, s)
	case api.StatusChange:
		return changingMayBe(c, s)
	case api.StatusRecovering:
		return recoveringMayBe(s)
	}
	return false
}

// normalMayBe: only a primary counts acknowledgements, and it waits for nobody.
func normalMayBe(c api.Config, s api.State) bool {
	if s.Last != s.View || len(s.Marks)+len(s.Ballots)+len(s.Answers) > 0 {
		return false
	}
	if !isPrimary(c, s) {
		return len(s.Acks) == 0
	}
	beyond := func(a api.Ack) bool { return !within(a.Place, 1, len(s.Log)) }
	return s.Idle == 0 && !slices.ContainsFunc(s.Acks, beyond)
}

// changingMayBe: only the view's primary-to-be counts ballots, and with F of them it would have begun the view.
func changingMayBe(c api.Config, s api.State) bool {
	if s.Last == s.View || len(s.Acks)+len(s.Answers) > 0 {
		return false
	}
	if !isPrimary(c, s) {
		return len(s.Ballots) == 0
	}
	late := func(b api.Ballot) bool { return b.Last >= s.View }
	return len(s.Ballots) < c.F && !slices.ContainsFunc(s.Ballots, late)
}

// recoveringMayBe: it has nothing but its draw and what it was answered. (Where View is 0 and Log is empty, so are Last and Commit.)
func recoveringMayBe(s api.State) bool {
	return s.View == 0 && s.Idle == 0 && len(s.Log)+len(s.Acks)+len(s.Marks)+len(s.Ballots) == 0 &&
		s.Vector[s.Self] != api.Draw{}
}

func isPrimary(c api.Config, s api.State) bool { return s.Self == Primary(c, s.View) }

// leads: is it the primary of a view that has begun?
func leads(c api.Config, s api.State) bool {
	return s.Status == api.StatusNormal && isPrimary(c, s)
}

func within(x, least, most int) bool { return x >= least && x <= most }

func ballotsAlike(a, b api.Ballot) bool {
	return a.Node == b.Node && a.Draw == b.Draw && a.Last == b.Last && a.Commit == b.Commit && slices.Equal(a.Log, b.Log)
}

func answersAlike(a, b api.Answer) bool {
	return a.Node == b.Node && a.Draw == b.Draw && a.View == b.View && a.Commit == b.Commit && slices.Equal(a.Log, b.Log)
}
