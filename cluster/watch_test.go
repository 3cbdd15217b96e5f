package cluster_test

import (
	"fmt"
	"math/big"
	"slices"
	"testing"

	"amnesia/api"
	"amnesia/cluster"
	"amnesia/ledger"
	"amnesia/message"
)

// watch goes along a run, row by row, and looks at all states behind each event: the great promises G1 to G5 and G9, in the document's words. It keeps the first thing that is wrong.
type watch struct {
	t        *testing.T
	setup    api.Setup
	u        *cluster.Cluster
	asked    []api.Entry
	sequence []api.Entry
	began    map[int][]api.Entry // by view: the log that was sent with StartView
	leads    map[int]bool        // by view: was it started?
	lives    []life              // by replica
	returns  []comeback
	seen     map[int]int // by client: the greatest place of what it was answered and told
	sent     map[string]bool
	packets  []api.Packet // all that were sent
	met      map[string]int
	fault    string
}

type life struct {
	draw       api.Draw
	recovering bool
	sure       int // how long the sequence was when it began
}

type comeback struct {
	node int
	draw api.Draw
	view int
}

func watched(t *testing.T, setup api.Setup, met map[string]int) *watch {
	t.Helper()
	return &watch{t: t, setup: setup, u: made(t, setup), began: make(map[int][]api.Entry), leads: make(map[int]bool),
		lives: make([]life, 2*setup.Config.F+1), seen: make(map[int]int), sent: make(map[string]bool), met: met}
}

func (w *watch) wrong(format string, args ...any) {
	if w.fault == "" {
		w.fault = fmt.Sprintf("event %d: ", w.u.Events()-1) + fmt.Sprintf(format, args...)
	}
}

func below(a, b api.Draw) bool {
	number := func(d api.Draw) *big.Int {
		n := new(big.Int).SetUint64(d.Hi)
		return n.Add(n.Lsh(n, 64), new(big.Int).SetUint64(d.Lo))
	}
	return number(a).Cmp(number(b)) < 0
}

func address(p api.Packet) string { return fmt.Sprint(p.To) + " " + string(p.Bytes) }

// do: an event, looked at.
func (w *watch) do(e api.Event) {
	w.t.Helper()
	ahead := w.states()
	rows, errno := w.u.Do(e)
	if errno != api.OK {
		w.t.Fatalf("%d: %+v", errno, e)
	}
	for _, row := range rows {
		w.row(row)
	}
	now := w.states()
	w.agree(now)
	if w.setup.Config.Unguarded {
		return // G3 speaks of crash vectors
	}
	w.know(now)
	if e.Kind == api.EventDeliver && len(rows) > 0 && rows[0].Packet.To < 7 {
		w.votes(ahead, now, rows)
	}
}

// states: of those that are not crashed; a zero one of the others.
func (w *watch) states() []api.State {
	var l []api.State
	for node := range w.lives {
		s, _ := w.u.Look(node)
		l = append(l, s)
	}
	return l
}

func isUp(s api.State) bool {
	return s.Status == api.StatusNormal || s.Status == api.StatusChange
}

// row: G1, G2, G5, G9, and of G3 that who recovers sends Recovery alone.
func (w *watch) row(row api.Seen) {
	switch row.Kind {
	case api.SeenAsked:
		w.asked = append(w.asked, row.Entry)
	case api.SeenSent:
		w.goesOut(row.Packet)
	case api.SeenTaken:
		if _, e := message.Decode(w.setup.Config, row.Packet.Bytes); e == api.OK && !w.sent[address(row.Packet)] {
			w.t.Fatal("the run does not keep the premises", row)
		}
	case api.SeenDone:
		w.done(row)
	case api.SeenLead:
		w.met["leads"]++
		if w.leads[row.View] {
			w.wrong("G5: view %d is started twice", row.View)
		}
		w.leads[row.View] = true
	case api.SeenReply:
		w.reply(row)
	case api.SeenTold:
		w.told(row)
	case api.SeenDown:
		w.met["crashes"]++
		w.lives[row.Node].recovering = false
	case api.SeenUp:
		if !below(w.lives[row.Node].draw, row.Draw) {
			w.t.Fatal("the run does not keep the premises", row)
		}
		w.lives[row.Node] = life{draw: row.Draw, recovering: true, sure: len(w.sequence)}
	case api.SeenBack:
		w.back(row)
	}
}

func (w *watch) goesOut(p api.Packet) {
	w.sent[address(p)] = true
	w.packets = append(w.packets, p)
	m, e := message.Decode(w.setup.Config, p.Bytes)
	if e != api.OK {
		w.wrong("%+v does not decode", p)
	}
	if p.From < 7 && w.lives[p.From].recovering && m.Kind != api.KindRecovery {
		w.wrong("G3: %d recovers, and sends %+v", p.From, m)
	}
	if m.Kind == api.KindStartView {
		if log, is := w.began[m.View]; is && !slices.Equal(log, m.Log) {
			w.wrong("G5: view %d begins with %+v and with %+v", m.View, log, m.Log)
		}
		w.began[m.View] = m.Log
	}
}

func (w *watch) done(row api.Seen) {
	w.met["done"]++
	switch {
	case row.Place <= len(w.sequence):
		if w.sequence[row.Place-1] != row.Entry {
			w.wrong("G1: %+v, where %+v was carried out", row, w.sequence[row.Place-1])
		}
	case row.Place > len(w.sequence)+1:
		w.wrong("G1: %+v behind %d entries", row, len(w.sequence))
	case !slices.Contains(w.asked, row.Entry):
		w.wrong("G1: %+v was not asked", row)
	case w.place(row.Entry.Client, row.Entry.Number) > 0:
		w.wrong("G1: %+v for the second time", row)
	default:
		w.sequence = append(w.sequence, row.Entry)
	}
}

// place: where the sequence has that request; 0: nowhere.
func (w *watch) place(client, number int) int {
	return 1 + slices.IndexFunc(w.sequence, func(e api.Entry) bool { return e.Client == client && e.Number == number })
}

// ledger: behind so many entries of the sequence.
func (w *watch) ledger(entries int) *ledger.Ledger {
	l := ledger.New()
	for _, e := range w.sequence[:entries] {
		l.Do(e.Op)
	}
	return l
}

func (w *watch) reply(row api.Seen) {
	w.met["replies"]++
	place := w.place(row.Entry.Client, row.Entry.Number)
	if place == 0 || w.ledger(place-1).Would(w.sequence[place-1].Op) != row.Result {
		w.wrong("G1: %+v, of place %d", row, place)
	}
	w.seen[row.Entry.Client] = max(w.seen[row.Entry.Client], place)
}

func (w *watch) told(row api.Seen) {
	w.met["told"]++
	client := row.Entry.Client
	if row.Place > len(w.sequence) || w.ledger(row.Place).Would(row.Entry.Op) != row.Result || row.Place < w.seen[client] {
		w.wrong("G9: %+v, having seen %d of %+v", row, w.seen[client], w.sequence)
	}
	w.seen[client] = max(w.seen[client], row.Place)
}

func (w *watch) back(row api.Seen) {
	w.met["returns"]++
	l := &w.lives[row.Node]
	if len(row.Log) < l.sure || !slices.Equal(row.Log[:l.sure], w.sequence[:l.sure]) {
		w.wrong("G2: %+v without %+v", row, w.sequence[:l.sure])
	}
	l.recovering = false
	w.returns = append(w.returns, comeback{row.Node, l.draw, row.View})
}

// agree: G4.
func (w *watch) agree(now []api.State) {
	for node, s := range now {
		if isUp(s) && (s.Commit > len(w.sequence) || !slices.Equal(s.Log[:s.Commit], w.sequence[:s.Commit])) {
			w.wrong("G4: %d has %+v, the sequence is %+v", node, s, w.sequence)
		}
	}
}

// know: the last sentence of G3.
func (w *watch) know(now []api.State) {
	for _, c := range w.returns {
		ignorant := 0
		for _, s := range now {
			if isUp(s) && below(s.Vector[c.node], c.draw) {
				ignorant++
			}
		}
		if ignorant > w.setup.Config.F-1 {
			w.wrong("G3: %d do not know of %+v", ignorant, c)
		}
	}
}

// votes: the first sentence of G3: by which votes a step has started a view, or committed something. (A step that was cut has left no state behind: it is not asked.)
func (w *watch) votes(ahead, now []api.State, rows []api.Seen) {
	p := rows[0].Packet
	m, e := message.Decode(w.setup.Config, p.Bytes)
	was, s := ahead[p.To], now[p.To]
	if e != api.OK || s.Status == 0 {
		return
	}
	if w.hasLed(rows) {
		ballots := []api.Mark{{Node: m.Node, Draw: m.Vector[m.Node]}}
		for _, b := range was.Ballots {
			if was.View == s.View && !below(b.Draw, s.Vector[b.Node]) {
				ballots = append(ballots, api.Mark{Node: b.Node, Draw: b.Draw})
			}
		}
		for _, b := range ballots {
			w.alive("ballot", b.Node, b.Draw, s.View-1)
		}
	}
	if m.Kind == api.KindPrepareOK && s.Commit > was.Commit {
		for _, a := range s.Acks {
			if a.Place > was.Commit {
				w.alive("acknowledgement", a.Node, a.Draw, s.View)
			}
		}
	}
}

func (w *watch) hasLed(rows []api.Seen) bool {
	return slices.ContainsFunc(rows, func(row api.Seen) bool { return row.Kind == api.SeenLead })
}

// alive: a vote is of no life ahead of a return in a view up to that one.
func (w *watch) alive(what string, node int, d api.Draw, view int) {
	w.met["votes"]++
	for _, c := range w.returns {
		if c.node == node && c.view <= view && below(d, c.draw) {
			w.wrong("G3: a %s of %d with %+v behind %+v", what, node, d, c)
		}
		if c.node == node {
			w.met["votes of a later life"]++
		}
	}
}
