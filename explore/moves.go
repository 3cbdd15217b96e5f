package explore

import (
	"slices"

	"amnesia/api"
	"amnesia/nonce"
)

// moves: the events that may come next behind a script that has used up so much.
func (there *end) moves(p api.Scope, script []api.Event, s spent) []api.Event {
	if len(script) >= p.Depth {
		return nil
	}
	places := there.places()
	moves := slices.Concat(there.submit(p.Ops, s), moving(api.EventDeliver, places))
	if s.drops < p.Drops {
		moves = append(moves, moving(api.EventDrop, places)...)
	}
	if s.copies < p.Copies {
		moves = append(moves, moving(api.EventCopy, places)...)
	}
	if s.ticks < p.Ticks {
		moves = append(moves, there.ticks()...)
	}
	if s.crashes < p.Crashes {
		moves = append(moves, there.crashes()...)
	}
	return append(moves, there.restarts(s)...)
}

// submit: the next request, if its client can make it.
func (there *end) submit(ops []api.Op, s spent) []api.Event {
	if s.submits >= len(ops) || len(there.clients) == 0 {
		return nil
	}
	client := s.submits % len(there.clients)
	if c := there.clients[client]; c.Waits || c.Number == api.MaxNumber {
		return nil
	}
	return []api.Event{{Kind: api.EventSubmit, Client: client, Op: ops[s.submits]}}
}

// parcel is what makes two packets the same.
type parcel struct {
	from, to int
	text     string
}

// places: those of the packets in the pool that are not the same as one ahead of them.
func (there *end) places() []int {
	var places []int
	met := make(map[parcel]struct{})
	for place, packet := range there.pool {
		same := parcel{packet.From, packet.To, string(packet.Bytes)}
		if _, is := met[same]; !is {
			places = append(places, place)
		}
		met[same] = struct{}{}
	}
	return places
}

// moving: an event of that kind for the packet in each of these places.
func moving(kind api.EventKind, places []int) []api.Event {
	moves := make([]api.Event, len(places))
	for i, place := range places {
		moves[i] = api.Event{Kind: kind, Index: place}
	}
	return moves
}

func (there *end) ticks() []api.Event {
	var moves []api.Event
	for node, r := range there.replicas {
		if r.alive {
			moves = append(moves, api.Event{Kind: api.EventTick, Node: node})
		}
	}
	return moves
}

// crashes: a replica that recovers is away already, so that its crash makes no more of them.
func (there *end) crashes() []api.Event {
	away := 0
	for _, r := range there.replicas {
		if r.isAway() {
			away++
		}
	}
	var moves []api.Event
	for node, r := range there.replicas {
		if r.alive && (away < there.setup.Config.F || r.isAway() && away == there.setup.Config.F) {
			moves = append(moves, api.Event{Kind: api.EventCrash, Node: node})
		}
	}
	return moves
}

// restarts: each with the least draw above all that the replica has had.
func (there *end) restarts(s spent) []api.Event {
	var moves []api.Event
	for node, r := range there.replicas {
		draw, e := nonce.Next(s.draws[node])
		if !r.alive && e == api.OK {
			moves = append(moves, api.Event{Kind: api.EventRestart, Node: node, Draw: draw})
		}
	}
	return moves
}

// isAway: is it crashed or recovering?
func (r replica) isAway() bool { return !r.alive || r.recovers() }
