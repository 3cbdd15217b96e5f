package nonce

import (
	"slices"

	"amnesia/api"
)

// Group is the sources of a group's replicas.
type Group struct {
	sources []Source
	drawn   []api.Stamp
	// Mixed sources leave these nil: a nil Clock takes every reading, and wiping a nil Pairs does nothing, just as it is asked of them.
	clock *Clock
	pairs [api.MaxNodes]*Pairs
}

// NewGroup: so many sources of a kind. ErrArg: there is no such kind, or nodes is not 1 to MaxNodes.
func NewGroup(kind, nodes int, seed uint64) (*Group, api.Errno) {
	if nodes < 1 || nodes > api.MaxNodes {
		return nil, api.ErrArg
	}
	switch kind {
	case api.SourceClock:
		return clockGroup(nodes, seed), api.OK
	case api.SourceMixed:
		return mixedGroup(nodes, seed), api.OK
	}
	return nil, api.ErrArg
}

// clockGroup: each replica has a memory of its own, all have one clock.
func clockGroup(nodes int, at uint64) *Group {
	g := &Group{clock: NewClock(at)}
	for i := range nodes {
		g.pairs[i] = &Pairs{Clock: g.clock}
		g.sources = append(g.sources, g.pairs[i])
	}
	return g
}

func mixedGroup(nodes int, seed uint64) *Group {
	g := &Group{}
	for i := range nodes {
		g.sources = append(g.sources, NewMixed(seed+uint64(i)))
	}
	return g
}

// Set: the clock's reading is that. ErrPast: it would go back.
func (g *Group) Set(at uint64) api.Errno {
	if g == nil {
		return api.OK
	}
	return g.clock.Set(at)
}

// Pass: the clock's reading goes up by that. ErrEnd: it would go beyond 64 bits.
func (g *Group) Pass(by uint64) api.Errno {
	if g == nil {
		return api.OK
	}
	return g.clock.Pass(by)
}

// Draw: a replica's next draw. ErrArg: there is no such replica; its source's error.
func (g *Group) Draw(node int) (api.Draw, api.Errno) {
	switch {
	case g == nil:
		return api.Draw{}, api.OK
	case !g.has(node):
		return api.Draw{}, api.ErrArg
	}
	d, e := g.sources[node].Draw()
	if e == api.OK {
		g.drawn = append(g.drawn, api.Stamp{Node: node, Draw: d})
	}
	return d, e
}

// Wipe: a replica's memory is gone. ErrArg: there is no such replica.
func (g *Group) Wipe(node int) api.Errno {
	switch {
	case g == nil:
		return api.OK
	case !g.has(node):
		return api.ErrArg
	}
	g.pairs[node].Wipe()
	return api.OK
}

// Drawn: what was drawn, in that order.
func (g *Group) Drawn() []api.Stamp {
	if g == nil {
		return nil
	}
	return slices.Clone(g.drawn)
}

func (g *Group) has(node int) bool {
	return node >= 0 && node < len(g.sources)
}
