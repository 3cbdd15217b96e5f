package history

import (
	"math"
	"slices"

	"amnesia/api"
	"amnesia/ledger"
	"amnesia/message"
	"amnesia/oplog"
)

// request is what no two entries of a sequence share.
type request struct {
	client int
	number int
}

func requestOf(e api.Entry) request { return request{e.Client, e.Number} }

// spot is what is known of a place of the sequence beside its entry.
type spot struct {
	result  api.Result // what the ledger answers there
	first   int        // the least view in which it was carried out
	lacking int        // the greatest view that was started without it; the least number, if there is none
}

// judge goes through rows, and has what they come to so far.
type judge struct {
	group    api.Config
	row      int
	asked    map[request][]api.Op // rows may tell of one request with several
	sequence []api.Entry
	spots    []spot // as many as there are entries
	places   map[request]int
	ledger   *ledger.Ledger      // behind the whole sequence
	begun    map[int][]api.Entry // by view: the log that it was started with
	seen     map[int]int         // by client: the place up to which it has seen the ledger
	recovers [api.MaxNodes]bool  // by node
	sure     [api.MaxNodes]int   // by node: how long the sequence was when it started last
}

func newJudge(c api.Config) *judge {
	return &judge{
		group:  c,
		asked:  make(map[request][]api.Op),
		places: make(map[request]int),
		ledger: ledger.New(),
		begun:  make(map[int][]api.Entry),
		seen:   make(map[int]int),
	}
}

// rule: nil, or why a row is a fault.
func (j *judge) rule(row api.Seen) error {
	switch row.Kind {
	case api.SeenAsked:
		return j.asks(row)
	case api.SeenSent:
		return j.sends(row)
	case api.SeenDone:
		return j.done(row)
	case api.SeenLead:
		return j.lead(row)
	case api.SeenReply:
		return j.reply(row)
	case api.SeenDown:
		return j.down(row)
	case api.SeenUp:
		return j.up(row)
	case api.SeenBack:
		return j.back(row)
	case api.SeenTold:
		return j.told(row)
	}
	return nil // what comes to somebody breaks nothing by itself
}

func (j *judge) broken(why error) error { return &Broken{Row: j.row, Why: why} }

func (j *judge) asks(row api.Seen) error {
	r := requestOf(row.Entry)
	j.asked[r] = append(j.asked[r], row.Entry.Op)
	return nil
}

func (j *judge) sends(row api.Seen) error {
	p := row.Packet
	if !isNode(j.group, p.From) || !j.recovers[p.From] {
		return nil
	}
	if m, e := message.Decode(j.group, p.Bytes); e != api.OK || m.Kind != api.KindRecovery {
		return j.broken(ErrSpoke)
	}
	return nil
}

func (j *judge) done(row api.Seen) error {
	next := len(j.sequence) + 1
	switch {
	case row.Place < 1 || row.Place > next:
		return j.broken(ErrGap)
	case row.Place < next:
		return j.doneAgain(row)
	}
	return j.doneFirst(row)
}

// doneAgain: an entry is carried out at a place that the sequence has.
func (j *judge) doneAgain(row api.Seen) error {
	s := &j.spots[row.Place-1]
	switch {
	case j.sequence[row.Place-1] != row.Entry:
		return j.broken(ErrParted)
	case s.lacking > row.View:
		return j.broken(ErrLead)
	}
	s.first = min(s.first, row.View)
	return nil
}

// doneFirst: an entry is carried out at the place behind the sequence: it is laid there.
func (j *judge) doneFirst(row api.Seen) error {
	r, lacking := requestOf(row.Entry), j.lacking(row.Place, row.Entry)
	switch {
	case !slices.Contains(j.asked[r], row.Entry.Op):
		return j.broken(ErrUnasked)
	case j.places[r] > 0:
		return j.broken(ErrAgain)
	case lacking > row.View:
		return j.broken(ErrLead)
	}
	j.sequence = append(j.sequence, row.Entry)
	j.spots = append(j.spots, spot{result: j.ledger.Do(row.Entry.Op), first: row.View, lacking: lacking})
	j.places[r] = row.Place
	return nil
}

// lacking: the greatest view that was started without that entry at that place; the least number, which is above no view, if there is none.
func (j *judge) lacking(place int, e api.Entry) int {
	greatest := math.MinInt
	for view, log := range j.begun {
		if !stands(log, place, e) {
			greatest = max(greatest, view)
		}
	}
	return greatest
}

// stands: does an entry stand at that place of a log?
func stands(log []api.Entry, place int, e api.Entry) bool {
	return place <= len(log) && log[place-1] == e
}

func (j *judge) lead(row api.Seen) error {
	if _, is := j.begun[row.View]; is {
		return j.broken(ErrLogs)
	}
	j.begun[row.View] = row.Log
	for i := range j.spots {
		s := &j.spots[i]
		if stands(row.Log, i+1, j.sequence[i]) {
			continue
		}
		if s.first < row.View {
			return j.broken(ErrLead)
		}
		s.lacking = max(s.lacking, row.View)
	}
	return nil
}

func (j *judge) reply(row api.Seen) error {
	place := j.places[requestOf(row.Entry)]
	if place == 0 || j.spots[place-1].result != row.Result {
		return j.broken(ErrReply)
	}
	j.seen[row.Entry.Client] = max(j.seen[row.Entry.Client], place)
	return nil
}

func (j *judge) down(row api.Seen) error {
	j.recovers[row.Node] = false
	return nil
}

func (j *judge) up(row api.Seen) error {
	j.recovers[row.Node], j.sure[row.Node] = true, len(j.sequence)
	return nil
}

func (j *judge) back(row api.Seen) error {
	j.recovers[row.Node] = false
	if !oplog.Begins(j.sequence[:j.sure[row.Node]], row.Log) {
		return j.broken(ErrForgot)
	}
	return nil
}

// told: what a client has seen is from 0 on, so that a place below it is a fault too.
func (j *judge) told(row api.Seen) error {
	client := row.Entry.Client
	if row.Place < j.seen[client] || row.Place > len(j.sequence) || j.past(row.Place).Would(row.Entry.Op) != row.Result {
		return j.broken(ErrRead)
	}
	j.seen[client] = row.Place
	return nil
}

// past: the ledger behind so many entries of the sequence.
func (j *judge) past(entries int) *ledger.Ledger {
	if entries == len(j.sequence) {
		return j.ledger
	}
	l := ledger.New()
	for _, e := range j.sequence[:entries] {
		l.Do(e.Op)
	}
	return l
}
