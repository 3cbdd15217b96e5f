package nemesis

import (
	"amnesia/api"
	"amnesia/cluster"
	"amnesia/nonce"
)

// play is a plan as it is played along a cluster: the script so far, and what holds from here on.
type play struct {
	*dice
	cluster *cluster.Cluster
	group   api.Config
	clients int
	script  []api.Event
	full    bool // an event more was to be laid than there may be

	faults [fates]int             // by fate: that of so many of a hundred packets
	aside  [api.MaxNodes]bool     // by node: on the one side of a split
	rates  [api.MaxNodes]int      // by node: ticks of a round
	draws  [api.MaxNodes]api.Draw // by node: that of its last Restart; the zero Draw, if there is none
}

// newPlay: a play at its beginning, of a setup that may be.
func newPlay(setup api.Setup, seed uint64) *play {
	p := &play{dice: newDice(seed), group: setup.Config, clients: len(setup.Clients)}
	p.cluster, _ = cluster.New(setup)
	for node := range p.rates {
		p.rates[node] = 1
	}
	return p
}

// scriptOf: the script that a seed makes. ErrBudget: the line that makes one event more than there may be.
func (t trouble) scriptOf(seed uint64) ([]api.Event, int, api.Errno) {
	p := newPlay(t.setup, seed)
	for _, l := range t.lines {
		p.doing(l)()
		if p.full {
			return nil, l.number, api.ErrBudget
		}
	}
	return p.script, 0, api.OK
}

// doing: what a line, whose numbers may be, does in this play.
func (p *play) doing(l line) func() {
	n := l.numbers
	switch l.form.word {
	case faultWord:
		return func() { copy(p.faults[:], n) }
	case splitWord:
		return func() { p.split(n) }
	case healWord:
		return func() { p.split(nil) }
	case clockWord:
		return func() { p.rates[n[0]] = n[1] }
	case loadWord:
		return func() { p.load(n[0]) }
	case runWord:
		return func() { p.rounds(n[0], func() {}) }
	case churnWord:
		return func() { p.rounds(n[1], func() { p.churn(n[0]) }) }
	case crashWord:
		return func() { p.crash(n[0]) }
	case restartWord:
		return func() { p.restart(n[0], p.fresh(n[0])) }
	case staleWord:
		return func() { p.restart(n[0], p.stale(n[0])) }
	case calmWord:
		return func() { p.lay(api.Event{Kind: api.EventRound, Count: n[0]}) }
	}
	return func() {} // there are no other forms
}

// lay: an event happens, and stands in the script; one that the cluster refuses does neither.
func (p *play) lay(e api.Event) {
	switch _, refused := p.cluster.Do(e); refused {
	case api.OK:
		p.script = append(p.script, e)
	case api.ErrEvents:
		p.full = true
	}
}

// split: these replicas are on one side, all others on the other.
func (p *play) split(nodes []int) {
	p.aside = [api.MaxNodes]bool{}
	for _, node := range nodes {
		p.aside[node] = true
	}
}

func (p *play) isAlive(node int) bool {
	_, alive := p.cluster.Look(node)
	return alive
}

func (p *play) crash(node int) {
	if p.isAlive(node) {
		p.lay(api.Event{Kind: api.EventCrash, Node: node})
	}
}

func (p *play) restart(node int, draw api.Draw) {
	if !p.isAlive(node) {
		p.lay(api.Event{Kind: api.EventRestart, Node: node, Draw: draw})
		p.draws[node] = draw
	}
}

// fresh: a draw that a replica has not had in this script. Its Hi stays 0, as there are fewer restarts than events.
func (p *play) fresh(node int) api.Draw { return api.Draw{Lo: p.draws[node].Lo + 1} }

// stale: a replica's last draw once more; a fresh one, if it has had none.
func (p *play) stale(node int) api.Draw {
	if last := p.draws[node]; last != (api.Draw{}) {
		return last
	}
	return p.fresh(node)
}

// dice are a seed's words, one by one.
type dice struct {
	source *nonce.Mixed
	second uint64 // the second word of the last draw
	isLeft bool   // that one is still to come
}

func newDice(seed uint64) *dice { return &dice{source: nonce.NewMixed(seed)} }

// next: the next word, modulo m.
func (d *dice) next(m int) int {
	word := d.second
	if !d.isLeft {
		draw, _ := d.source.Draw() // it never ends
		word, d.second = draw.Hi, draw.Lo
	}
	d.isLeft = !d.isLeft
	return int(word % uint64(m))
}
