package explore

import (
	"slices"

	"amnesia/api"
	"amnesia/cluster"
	"amnesia/ledger"
	"amnesia/nonce"
)

// mayBe: may a scope be? What is cheap is asked first, since Before may be long.
func mayBe(p api.Scope) bool {
	for _, number := range []int{p.Depth, p.Ticks, p.Drops, p.Copies, p.Crashes, len(p.Ops)} {
		if number < 0 || number > api.MaxDepth {
			return false
		}
	}
	refused := func(op api.Op) bool { return ledger.Check(op) != api.OK }
	if slices.ContainsFunc(p.Ops, refused) || len(p.Before) > api.MaxEvents-api.MaxDepth {
		return false
	}
	_, _, e := cluster.Run(p.Setup, p.Before)
	return e == api.OK
}

// spent is what a script has used up of a scope; and, since restarts go on from there, how far each replica's draws have come.
type spent struct {
	submits int
	ticks   int
	drops   int
	copies  int
	crashes int
	draws   [api.MaxNodes]api.Draw // by node: the greatest of its Restarts; the zero Draw, if there are none
}

// spentBy: by a script that a cluster plays behind Before. Of Before the draws alone count.
func spentBy(before, script []api.Event) spent {
	var s spent
	for _, e := range before {
		s.draw(e)
	}
	for _, e := range script {
		s.draw(e)
		switch e.Kind {
		case api.EventSubmit:
			s.submits++
		case api.EventTick:
			s.ticks++
		case api.EventDrop:
			s.drops++
		case api.EventCopy:
			s.copies++
		case api.EventCrash:
			s.crashes++
		}
	}
	return s
}

func (s *spent) draw(e api.Event) {
	if e.Kind == api.EventRestart && nonce.Compare(e.Draw, s.draws[e.Node]) > 0 {
		s.draws[e.Node] = e.Draw
	}
}
