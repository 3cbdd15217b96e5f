package nemesis

import (
	"amnesia/api"
	"amnesia/core"
)

// What a load draws from.
const (
	someActs  = 5
	someSlots = 8
	someBytes = 8 // from firstByte on
	firstByte = 'a'
)

// What is drawn of a packet that is spoilt.
const (
	somePlaces = 64
	someMasks  = 255 // from 1 on
)

// fate is what becomes of a packet.
type fate int

const (
	lost fate = iota
	doubled
	spoilt
	held
	comes // all others do

	fates = comes // those that a fault line has a share for
)

// load: so many times a client does something, if there is one.
func (p *play) load(times int) {
	for range times {
		if p.clients > 0 {
			p.act(p.next(p.clients))
		}
	}
}

// act: a client does something. Words are drawn in the order in which they stand here, since the language calls functions from the left on.
func (p *play) act(client int) {
	switch p.next(someActs) {
	case 0, 1:
		p.submit(client, api.Op{Kind: api.OpWrite, Slot: p.next(someSlots), Value: p.value()})
	case 2:
		p.submit(client, api.Op{Kind: api.OpAppend, Value: p.value()})
	case 3:
		p.submit(client, p.reading())
	case 4:
		p.lay(api.Event{Kind: api.EventQuery, Client: client, Node: p.node(), Op: p.reading()})
	}
}

func (p *play) submit(client int, op api.Op) {
	p.lay(api.Event{Kind: api.EventSubmit, Client: client, Op: op})
}

func (p *play) node() int { return p.next(core.Nodes(p.group)) }

func (p *play) value() string { return string(rune(firstByte + p.next(someBytes))) }

func (p *play) reading() api.Op { return api.Op{Kind: api.OpRead, Slot: p.next(someSlots)} }

// rounds: so many, with something ahead of each.
func (p *play) rounds(count int, ahead func()) {
	for range count {
		if p.full {
			return
		}
		ahead()
		p.retry()
		p.move()
		p.tick()
	}
}

// churn: so many of a hundred times a replica crashes or starts again. No more than F are ever away by it.
func (p *play) churn(share int) {
	if p.next(hundred) >= share {
		return
	}
	node := p.node()
	s, alive := p.cluster.Look(node)
	switch {
	case !alive:
		p.restart(node, p.fresh(node))
	case s.Status == api.StatusRecovering || p.away() < p.group.F:
		p.crash(node)
	}
}

// away: how many replicas are crashed or recovering.
func (p *play) away() int {
	away := 0
	for node := range core.Nodes(p.group) {
		if s, alive := p.cluster.Look(node); !alive || s.Status == api.StatusRecovering {
			away++
		}
	}
	return away
}

func (p *play) retry() {
	for client := range p.clients {
		if c, _ := p.cluster.Client(client); c.Waits {
			p.lay(api.Event{Kind: api.EventRetry, Client: client})
		}
	}
}

// move: each packet that is under way meets its fate. What is sent meanwhile lies behind them, and waits for the next round.
func (p *play) move() {
	place := 0
	for _, packet := range p.cluster.Pool() {
		if p.isApart(packet) {
			p.lay(api.Event{Kind: api.EventDrop, Index: place})
			continue
		}
		switch p.fate() {
		case lost:
			p.lay(api.Event{Kind: api.EventDrop, Index: place})
			continue
		case doubled:
			p.lay(api.Event{Kind: api.EventCopy, Index: place})
		case spoilt:
			p.lay(api.Event{Kind: api.EventSpoil, Index: place, At: p.next(somePlaces), Count: 1 + p.next(someMasks)})
		case held:
			place++
			continue
		}
		p.lay(api.Event{Kind: api.EventDeliver, Index: place})
	}
}

// isApart: is a packet from a replica to one on the other side?
func (p *play) isApart(packet api.Packet) bool {
	return packet.From < api.MaxNodes && packet.To < api.MaxNodes && p.aside[packet.From] != p.aside[packet.To]
}

// fate: that of the next packet.
func (p *play) fate() fate {
	w := p.next(hundred)
	for f, share := range p.faults {
		if w < share {
			return fate(f)
		}
		w -= share
	}
	return comes
}

func (p *play) tick() {
	for node := range core.Nodes(p.group) {
		if p.isAlive(node) {
			for range p.rates[node] {
				p.lay(api.Event{Kind: api.EventTick, Node: node})
			}
		}
	}
}
