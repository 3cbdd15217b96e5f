package engine

import "amnesia/api"

// field is a part of an event's or a question's line, behind its first word.
type field int

const (
	noField field = iota
	clientField
	nodeField
	indexField
	atField
	countField
	drawField
	bytesField
	opField      // an operation
	readingField // an operation that changes no ledger
	cutField     // a cut, or nothing
)

// form is how lines of a kind are written, both by who reads them and by who prints them.
type form struct {
	word   string        // the first one
	kind   api.EventKind // 0: it is a question, whose number lies in an event's field all the same
	fields [3]field      // what stands behind it, in this order
}

// forms: those of all lines but the head's.
var forms = [...]form{
	{"submit", api.EventSubmit, [3]field{clientField, opField}},
	{"retry", api.EventRetry, [3]field{clientField}},
	{"deliver", api.EventDeliver, [3]field{indexField, cutField}},
	{"drop", api.EventDrop, [3]field{indexField}},
	{"copy", api.EventCopy, [3]field{indexField}},
	{"spoil", api.EventSpoil, [3]field{indexField, atField, countField}},
	{"inject", api.EventInject, [3]field{atField, nodeField, bytesField}},
	{"tick", api.EventTick, [3]field{nodeField, cutField}},
	{"crash", api.EventCrash, [3]field{nodeField}},
	{"restart", api.EventRestart, [3]field{nodeField, drawField, cutField}},
	{"query", api.EventQuery, [3]field{clientField, nodeField, readingField}},
	{"round", api.EventRound, [3]field{countField}},

	{lookWord, 0, [3]field{nodeField}},
	{cellsWord, 0, [3]field{nodeField}},
	{askWord, 0, [3]field{clientField}},
	{poolWord, 0, [3]field{}},
	{judgeWord, 0, [3]field{}},
}

func (f form) isEvent() bool { return f.kind != 0 }

// formNamed: the form with that first word; false: there is none.
func formNamed(word string) (form, bool) {
	for _, f := range forms {
		if f.word == word {
			return f, true
		}
	}
	return form{}, false
}

// formOf: the form of a kind of events; false: it is none.
func formOf(kind api.EventKind) (form, bool) {
	for _, f := range forms {
		if f.isEvent() && f.kind == kind {
			return f, true
		}
	}
	return form{}, false
}

// numberAt: where a field that is a plain number lies in an event; nil, if it is none.
func numberAt(e *api.Event, f field) *int {
	switch f {
	case clientField:
		return &e.Client
	case nodeField:
		return &e.Node
	case indexField:
		return &e.Index
	case atField:
		return &e.At
	case countField:
		return &e.Count
	}
	return nil
}

// opForm is how an operation is written: its word, then its slot and its value, where it uses them.
type opForm struct {
	word  string
	kind  int
	slot  bool
	value bool
}

var opForms = [...]opForm{
	{"write", api.OpWrite, true, true},
	{"append", api.OpAppend, false, true},
	{"read", api.OpRead, true, false},
	{"count", api.OpCount, false, false},
}

// opFormNamed: the form with that word; false: there is none.
func opFormNamed(word string) (opForm, bool) {
	for _, f := range opForms {
		if f.word == word {
			return f, true
		}
	}
	return opForm{}, false
}

// opFormOf: the form of a kind of operations; false: it is none.
func opFormOf(kind int) (opForm, bool) {
	for _, f := range opForms {
		if f.kind == kind {
			return f, true
		}
	}
	return opForm{}, false
}

// isReading: does a kind of operations change no ledger? A query asks for no other.
func isReading(kind int) bool { return kind == api.OpRead || kind == api.OpCount }

// Words that stand both where lines are read and where they are printed or played.
const (
	groupWord     = "group"
	clientWord    = "client"
	unguardedWord = "unguarded"
	cutWord       = "cut"
	lookWord      = "look"
	cellsWord     = "cells"
	askWord       = "ask"
	poolWord      = "pool"
	judgeWord     = "judge"
)

// How bytes are written.
const (
	digits  = "0123456789abcdef"
	noBytes = "-"
)
