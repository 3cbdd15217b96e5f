package message

import (
	"amnesia/api"
	"amnesia/oplog"
	"amnesia/vector"
)

func configMayBe(c api.Config) bool {
	return within(c.F, 1, api.MaxF) && within(c.Room, 1, api.MaxLog) && within(c.Patience, api.MinPatience, api.MaxPatience)
}

// keeps: is what a message has in a column as the rule asks? Each rule stands by itself: whatever the other columns hold, it does not go wrong.
func keeps(c api.Config, m api.Msg, at column, asked rule) bool {
	nodes := 2*c.F + 1
	switch asked {
	case unused:
		return isBlank(m, at)
	case sender:
		return within(m.Node, 0, nodes-1)
	case primary:
		return m.Node == m.View%nodes
	case anyView:
		return within(m.View, 0, api.MaxView)
	case laterView:
		return within(m.View, 1, api.MaxView)
	case belowView:
		return m.Last >= 0 && m.Last < m.View
	case anyPlace:
		return within(m.Place, 0, c.Room)
	case takenPlace:
		return within(m.Place, 1, c.Room)
	case answerPlace:
		return answerPlaceMayBe(m.Place, m.Result.Code, c.Room)
	case roomCommit:
		return within(m.Commit, 0, c.Room)
	case logCommit:
		return within(m.Commit, 0, len(m.Log))
	case anyDraw:
		return m.Draw != api.Draw{}
	case ownDraw:
		return m.Draw != api.Draw{} && within(m.Node, 0, len(m.Vector)-1) && m.Draw == m.Vector[m.Node]
	case wholeEntry:
		return logMayBe([]api.Entry{m.Entry}, 1)
	case queryEntry:
		return logMayBe([]api.Entry{m.Entry}, 1) && (m.Entry.Op.Kind == api.OpRead || m.Entry.Op.Kind == api.OpCount)
	case entryName:
		return nameMayBe(m.Entry)
	case anyResult:
		return resultMayBe(m.Result)
	case readingResult:
		return resultMayBe(m.Result) && isReading(m.Result.Code)
	case anyLog:
		return logMayBe(m.Log, c.Room)
	case primaryLog:
		return len(m.Log) == 0 || m.Node == m.View%nodes && logMayBe(m.Log, c.Room)
	case groupVector:
		return vector.Check(m.Vector, nodes) == api.OK
	}
	return false
}

// isBlank: does a message have nothing in a column?
func isBlank(m api.Msg, at column) bool {
	switch at {
	case nodeColumn:
		return m.Node == 0
	case viewColumn:
		return m.View == 0
	case lastColumn:
		return m.Last == 0
	case placeColumn:
		return m.Place == 0
	case commitColumn:
		return m.Commit == 0
	case drawColumn:
		return m.Draw == api.Draw{}
	case entryColumn:
		return m.Entry == api.Entry{}
	case resultColumn:
		return m.Result == api.Result{}
	case logColumn:
		return len(m.Log) == 0
	}
	return len(m.Vector) == 0
}

func within(x, least, most int) bool {
	return x >= least && x <= most
}

// answerPlaceMayBe: what was refused has come to no place.
func answerPlaceMayBe(place, code, room int) bool {
	if code == api.ResRefused {
		return place == 0
	}
	return within(place, 1, room)
}

// logMayBe serves for one entry too: by itself it may be if a log of it alone may.
func logMayBe(l []api.Entry, room int) bool {
	e, _ := oplog.Check(l, room)
	return e == api.OK
}

// nameMayBe: are Client and Number as in an entry that may be, with nothing beside? They are asked for in an entry whose operation may be.
func nameMayBe(e api.Entry) bool {
	whole := api.Entry{Client: e.Client, Number: e.Number, Op: api.Op{Kind: api.OpCount}}
	return e.Op == api.Op{} && logMayBe([]api.Entry{whole}, 1)
}

func resultMayBe(r api.Result) bool {
	switch r.Code {
	case api.ResWritten, api.ResTaken, api.ResFound:
		return within(r.Slot, 0, api.MaxSlots-1) && len(r.Value) <= api.MaxValue
	case api.ResNone:
		return within(r.Slot, 0, api.MaxSlots-1) && r.Value == ""
	case api.ResCount:
		return within(r.Slot, 0, api.MaxSlots) && r.Value == ""
	case api.ResFull, api.ResRefused:
		return r.Slot == 0 && r.Value == ""
	}
	return false
}

// isReading: does the code answer an operation that changes no ledger?
func isReading(code int) bool {
	return code == api.ResFound || code == api.ResNone || code == api.ResCount
}
