package engine

import (
	"strconv"
	"strings"

	"amnesia/api"
	"amnesia/cluster"
	"amnesia/history"
	"amnesia/nonce"
	"amnesia/oplog"
)

// player is a script at play, and its report so far.
type player struct {
	setup   api.Setup
	cluster *cluster.Cluster
	seen    []api.Seen // all of it, as long as the judge is still to be asked
	judges  int        // how often that is
	report  strings.Builder
}

func (p *player) tell(words ...string) { p.report.WriteString(joined(words)) }

func (p *player) plays(l line) {
	p.tell(append([]string{">"}, l.words...)...)
	switch l.form.word {
	case lookWord:
		p.look(l.event.Node)
	case cellsWord:
		p.cells(l.event.Node)
	case askWord:
		p.ask(l.event.Client)
	case poolWord:
		p.tell(poolWord, strconv.Itoa(len(p.cluster.Pool())))
	case judgeWord:
		p.judge()
	default:
		p.do(l.event)
	}
}

func (p *player) do(event api.Event) {
	rows, e := p.cluster.Do(event)
	if e != api.OK {
		p.tell("!", strconv.Itoa(int(e)))
		return
	}
	if p.judges > 0 {
		p.seen = append(p.seen, rows...)
	}
	sent := 0
	for _, row := range rows {
		if row.Kind == api.SeenSent {
			sent++
		}
		p.row(row)
	}
	if sent > 0 {
		p.tell("sent", strconv.Itoa(sent))
	}
}

// row: what is told of something seen; nothing of what is asked, sent and taken.
func (p *player) row(row api.Seen) {
	node, view, place := strconv.Itoa(row.Node), strconv.Itoa(row.View), strconv.Itoa(row.Place)
	client, number, length := strconv.Itoa(row.Entry.Client), strconv.Itoa(row.Entry.Number), strconv.Itoa(len(row.Log))
	switch row.Kind {
	case api.SeenDone:
		p.tell("done", node, view, place, client, number)
	case api.SeenLead:
		p.tell("lead", node, view, length)
	case api.SeenReply:
		p.tell("reply", client, number, resultText(row.Result))
	case api.SeenTold:
		p.tell("told", client, number, node, place, resultText(row.Result))
	case api.SeenDown:
		p.tell("down", node)
	case api.SeenUp:
		p.tell("up", node, nonce.Print(row.Draw))
	case api.SeenBack:
		p.tell("back", node, view, length)
	}
}

func (p *player) gone(number int) { p.tell("gone", strconv.Itoa(number)) }

func (p *player) look(node int) {
	s, is := p.cluster.Look(node)
	if !is {
		p.gone(node)
		return
	}
	view, last := strconv.Itoa(s.View), strconv.Itoa(s.Last)
	length, commit := strconv.Itoa(len(s.Log)), strconv.Itoa(s.Commit)
	switch s.Status {
	case api.StatusNormal:
		p.tell("normal", view, length, commit)
	case api.StatusChange:
		p.tell("changing", view, last, length, commit)
	case api.StatusRecovering:
		p.tell("recovering")
	}
	vector := []string{"vector"}
	for _, d := range s.Vector {
		vector = append(vector, nonce.Print(d))
	}
	p.tell(vector...)
}

func (p *player) cells(node int) {
	s, is := p.cluster.Look(node)
	if !is {
		p.gone(node)
		return
	}
	cells, _, _ := oplog.Replay(s.Log, s.Commit) // a replica's commit number is not beyond its log
	for _, c := range cells {
		p.tell("cell", strconv.Itoa(c.Slot), bytesText(c.Value))
	}
}

func (p *player) ask(client int) {
	c, is := p.cluster.Client(client)
	if !is {
		p.gone(client)
		return
	}
	answer := resultText(c.Result)
	switch {
	case c.Waits:
		answer = "waits"
	case c.Op == api.Op{}: // no request is that
		answer = "none"
	}
	p.tell("client", strconv.Itoa(c.Number), answer)
	p.tell("seen", strconv.Itoa(c.Seen))
}

// judge: neither call errs, since the setup may be, and so may all that a cluster shows.
func (p *player) judge() {
	premise, _ := history.Premises(p.setup.Config, p.seen)
	judgement, _ := history.Judge(p.setup, p.seen)
	p.tell("few", rowText(premise.Few))
	p.tell("fresh", rowText(premise.Fresh))
	p.tell("genuine", rowText(premise.Genuine))
	p.tell("sequence", strconv.Itoa(len(judgement.Sequence)))
	p.tell("fault", rowText(judgement.Fault))
	p.judges--
	if p.judges == 0 {
		p.seen = nil
	}
}

// rowText: a row's number; -, where there is none.
func rowText(row int) string {
	if row < 0 {
		return "-"
	}
	return strconv.Itoa(row)
}

func resultText(r api.Result) string {
	slot, value := strconv.Itoa(r.Slot), bytesText(r.Value)
	switch r.Code {
	case api.ResWritten:
		return "written " + slot + " " + value
	case api.ResTaken:
		return "taken " + slot + " " + value
	case api.ResFull:
		return "full"
	case api.ResFound:
		return "found " + slot + " " + value
	case api.ResNone:
		return "none " + slot
	case api.ResCount:
		return "count " + slot
	case api.ResRefused:
		return "refused"
	}
	return "" // no client is answered so
}
