package explore

import (
	"slices"

	"amnesia/api"
)

// past is what was seen of a script, as far as the judge may lean on it later. Of what has no order each part is a text.
type past struct {
	asked   []string
	leads   []string
	replied []string
	least   []int               // of each place of the sequence the least view of a Done there
	sure    [api.MaxNodes]int   // by node: how long the sequence was at its last Up
	told    [api.MaxClients]int // by client: one more than the greatest place of a Told; 0, if there is none
}

// pastOf: of rows whose first fault is that one; -1: none is.
func pastOf(rows []api.Seen, fault int) past {
	var p past
	for number, row := range rows {
		client := row.Entry.Client
		switch row.Kind {
		case api.SeenAsked:
			p.asked = append(p.asked, textOf(func(w *writer) { w.entry(row.Entry) }))
		case api.SeenLead:
			p.leads = append(p.leads, textOf(func(w *writer) { w.numbers(row.View); w.log(row.Log) }))
		case api.SeenReply:
			p.replied = append(p.replied, textOf(func(w *writer) { w.numbers(client, row.Entry.Number) }))
		case api.SeenTold:
			p.told[client] = max(p.told[client], row.Place+1)
		case api.SeenUp:
			p.sure[row.Node] = len(p.least)
		case api.SeenDone:
			p.done(row, fault < 0 || number < fault)
		}
	}
	for _, list := range [][]string{p.asked, p.leads, p.replied} {
		slices.Sort(list)
	}
	return p
}

// done: an entry is carried out. Ahead of all faults one that stands behind the sequence is laid there by the judge, so there is a place for each of the sequence's.
func (p *past) done(row api.Seen, right bool) {
	if row.Place <= len(p.least) {
		p.least[row.Place-1] = min(p.least[row.Place-1], row.View)
	} else if right {
		p.least = append(p.least, row.View)
	}
}
