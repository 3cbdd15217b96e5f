package message

import "amnesia/api"

// column is a field of messages, beside their kind; the columns stand in the order in which they are laid down.
type column int

const (
	nodeColumn column = iota
	viewColumn
	lastColumn
	placeColumn
	commitColumn
	drawColumn
	entryColumn
	resultColumn
	logColumn
	vectorColumn
	columns
)

// rule is what a kind asks of a column.
type rule uint8

const (
	unused        rule = iota // zero, a list empty
	sender                    // Node: any replica
	primary                   // Node: the primary of View
	anyView                   // View: from 0 on
	laterView                 // View: from 1 on
	belowView                 // Last: below View
	anyPlace                  // Place: 0 to Room
	takenPlace                // Place: 1 to Room
	answerPlace               // Place: 1 to Room; of a refusal 0
	roomCommit                // Commit: 0 to Room
	logCommit                 // Commit: at most the log's length
	anyDraw                   // Draw: not that of a first life
	ownDraw                   // Draw: likewise, and Vector's entry of Node
	wholeEntry                // Entry: one that may be
	queryEntry                // Entry: one that may be, which changes no ledger
	entryName                 // Entry: Client and Number alone
	anyResult                 // Result: one that may be
	readingResult             // Result: one that may be, of what changes no ledger
	anyLog                    // Log: one that may be
	primaryLog                // Log: one that may be; empty but of the primary of View
	groupVector               // Vector: an entry for each replica
)

// table: what each kind asks of each column. No kind is 0.
var table = [...][columns]rule{
	api.KindRequest: {entryColumn: wholeEntry},
	api.KindReply:   {nodeColumn: sender, viewColumn: anyView, placeColumn: answerPlace, entryColumn: entryName, resultColumn: anyResult},

	api.KindPrepare:   {nodeColumn: primary, viewColumn: anyView, placeColumn: takenPlace, commitColumn: roomCommit, entryColumn: wholeEntry, vectorColumn: groupVector},
	api.KindPrepareOK: {nodeColumn: sender, viewColumn: anyView, placeColumn: anyPlace, vectorColumn: groupVector},
	api.KindCommit:    {nodeColumn: primary, viewColumn: anyView, commitColumn: roomCommit, vectorColumn: groupVector},

	api.KindStartViewChange: {nodeColumn: sender, viewColumn: laterView, vectorColumn: groupVector},
	api.KindDoViewChange:    {nodeColumn: sender, viewColumn: laterView, lastColumn: belowView, commitColumn: logCommit, logColumn: anyLog, vectorColumn: groupVector},
	api.KindStartView:       {nodeColumn: primary, viewColumn: laterView, commitColumn: logCommit, logColumn: anyLog, vectorColumn: groupVector},

	api.KindRecovery:         {nodeColumn: sender, drawColumn: ownDraw, vectorColumn: groupVector},
	api.KindRecoveryResponse: {nodeColumn: sender, viewColumn: anyView, commitColumn: logCommit, drawColumn: anyDraw, logColumn: primaryLog, vectorColumn: groupVector},

	api.KindGetState: {nodeColumn: sender, viewColumn: anyView, vectorColumn: groupVector},
	api.KindNewState: {nodeColumn: sender, viewColumn: anyView, commitColumn: logCommit, logColumn: anyLog, vectorColumn: groupVector},

	api.KindQuery: {placeColumn: anyPlace, entryColumn: queryEntry},
	api.KindTold:  {nodeColumn: sender, viewColumn: anyView, commitColumn: roomCommit, entryColumn: entryName, resultColumn: readingResult},
}

func isKind(k api.Kind) bool {
	return k >= api.KindRequest && k <= api.KindTold
}
