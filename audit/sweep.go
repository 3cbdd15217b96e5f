package audit

import (
	"amnesia/api"
	"amnesia/core"
	"amnesia/tree"
)

// Sweep: the forks among states, in the order of the list. ErrConfig: c may not be; ErrState: one of the states may not.
func Sweep(c api.Config, l []api.State) ([]api.Fork, api.Errno) {
	if e := core.CheckConfig(c); e != api.OK {
		return nil, e
	}
	for _, s := range l {
		if e := core.Check(c, s); e != api.OK {
			return nil, e
		}
	}
	var forks []api.Fork
	pasts := pastsOf(l)
	for i, a := range pasts {
		for _, b := range pasts[i+1:] {
			size := min(a.size(), b.size())
			if first, second := a.claim(size), b.claim(size); !sameHistory(first, second) {
				forks = append(forks, api.Fork{A: first, B: second})
			}
		}
	}
	return forks, api.OK
}

// past is a replica's history by the heads of all its beginnings, the empty one too: each is asked for by many others.
type past struct {
	node, view int
	heads      []api.Hash
}

// pastsOf: of those that are not recovering.
func pastsOf(l []api.State) []past {
	var pasts []past
	for _, s := range l {
		if s.Status != api.StatusRecovering {
			pasts = append(pasts, past{node: s.Self, view: s.View, heads: headsOf(s.Log[:s.Commit])})
		}
	}
	return pasts
}

// headsOf: the Head of the first 0, 1, .. entries, up to all.
func headsOf(history []api.Entry) []api.Hash {
	grown := tree.New()
	heads := []api.Hash{grown.Head()}
	for _, entry := range history {
		grown.Add(entry)
		heads = append(heads, grown.Head())
	}
	return heads
}

func (p past) size() int { return len(p.heads) - 1 }

// claim: of its first entries.
func (p past) claim(size int) api.Claim {
	return api.Claim{Node: p.node, View: p.view, Size: size, Head: p.heads[size]}
}
