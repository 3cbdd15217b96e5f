package tally

import (
	"cmp"

	"amnesia/api"
	"amnesia/oplog"
)

// Each kind of votes is api's, with what it tells of itself. as.. makes a vote of this layer's, which has its Log from the caller; told.. gives it back, with a Log of its own.

type ack api.Ack

func (a ack) node() int              { return a.Node }
func (a ack) draw() api.Draw         { return a.Draw }
func (a ack) greater(old ack) bool   { return a.Place > old.Place }
func (a ack) mayBe(_, room int) bool { return a.Place >= 0 && a.Place <= room }

func asAck(a api.Ack) ack   { return ack(a) }
func toldAck(a ack) api.Ack { return api.Ack(a) }

// mark says nothing but whose it is, so none is greater than another.
type mark api.Mark

func (m mark) node() int           { return m.Node }
func (m mark) draw() api.Draw      { return m.Draw }
func (m mark) greater(mark) bool   { return false }
func (m mark) mayBe(int, int) bool { return true }

func asMark(m api.Mark) mark   { return mark(m) }
func toldMark(m mark) api.Mark { return api.Mark(m) }

type ballot api.Ballot

func (b ballot) node() int      { return b.Node }
func (b ballot) draw() api.Draw { return b.Draw }

func (b ballot) greater(old ballot) bool {
	return cmp.Or(compareBallots(b, old), cmp.Compare(b.Commit, old.Commit)) > 0
}

func (b ballot) mayBe(_, room int) bool {
	return viewMayBe(b.Last) && logMayBe(b.Log, b.Commit, room)
}

// compareBallots is what both putting and choosing look at first: the later view, and of one view the longer log.
func compareBallots(a, b ballot) int {
	return cmp.Or(cmp.Compare(a.Last, b.Last), cmp.Compare(len(a.Log), len(b.Log)))
}

func asBallot(b api.Ballot) ballot { return ballot(b) }

func toldBallot(b ballot) api.Ballot {
	b.Log = copied(b.Log)
	return api.Ballot(b)
}

type answer api.Answer

func (a answer) node() int      { return a.Node }
func (a answer) draw() api.Draw { return a.Draw }

func (a answer) greater(old answer) bool {
	return cmp.Or(cmp.Compare(a.View, old.View), cmp.Compare(len(a.Log), len(old.Log)), cmp.Compare(a.Commit, old.Commit)) > 0
}

// Only the primary of its view tells its log.
func (a answer) mayBe(n, room int) bool {
	return viewMayBe(a.View) && logMayBe(a.Log, a.Commit, room) && (len(a.Log) == 0 || a.Node == primary(a.View, n))
}

func asAnswer(a api.Answer) answer { return answer(a) }

func toldAnswer(a answer) api.Answer {
	a.Log = copied(a.Log)
	return api.Answer(a)
}

// primary: a view's primary among n replicas; from 0 on, of a view below 0 too.
func primary(view, n int) int { return (view%n + n) % n }

func viewMayBe(view int) bool { return view >= 0 && view <= api.MaxView }

func logMayBe(l []api.Entry, commit, room int) bool {
	e, _ := oplog.Check(l, room)
	return e == api.OK && commit >= 0 && commit <= len(l)
}

func copied(l []api.Entry) []api.Entry {
	c := make([]api.Entry, len(l))
	copy(c, l)
	return c
}
