package tape

import (
	"amnesia/api"
	"amnesia/wire"
)

// Index: the places of a file's event chunks, by its foot alone. ErrCut: it ends too early for a foot; ErrIndex: there is no right one.
func Index(b []byte) ([]int, api.Errno) {
	x, e := indexOf(b)
	return x.places, e
}

// Seek: some of a file's events, by its foot and the chunks that it tells. Index's errors; ErrArg: by the foot there are no such events; ErrTape: a chunk on the way to them that may not be.
func Seek(b []byte, from, count int) ([]api.Event, api.Errno) {
	x, e := indexOf(b)
	switch {
	case e != api.OK:
		return nil, e
	case from < 0 || count < 0 || uint64(from)+uint64(count) > x.events:
		return nil, api.ErrArg
	case count == 0:
		return nil, api.OK
	}
	start, is := x.down(b, uint64(from))
	if !is {
		return nil, api.ErrTape
	}
	events, is := x.up(b, start, uint64(from), count)
	if !is {
		return nil, api.ErrTape
	}
	return events, api.OK
}

// index is a foot whose places may be those of a file's event chunks.
type index struct {
	events uint64
	places []int
}

// indexOf: Index's errors.
func indexOf(b []byte) (index, api.Errno) {
	end := len(b) - tailSize
	if end < 0 {
		return index{}, api.ErrCut
	}
	own := end - numberOf(b[end:])
	if own < 0 {
		return index{}, api.ErrCut
	}
	body, e := wire.Open(b[own:end:end])
	if e != api.OK {
		return index{}, api.ErrIndex
	}
	f, is := footOf(body)
	if !is || (f.events == 0) != (len(f.places) == 0) {
		return index{}, api.ErrIndex
	}
	x := index{events: f.events}
	least := uint64(1)
	for _, place := range f.places {
		if place < least || place >= uint64(own) {
			return index{}, api.ErrIndex
		}
		x.places = append(x.places, int(place))
		least = place + 1
	}
	return x, api.OK
}

// down: from the last event chunk downwards, which is the first that begins at an event or ahead of it; false: there is none, or one on the way is not right.
func (x index) down(b []byte, event uint64) (int, bool) {
	for i := len(x.places) - 1; i >= 0; i-- {
		p, is := pieceAt(b, x.places[i])
		if !is {
			return 0, false
		}
		if p.first <= event {
			return i, true
		}
	}
	return 0, false
}

// up: so many events from one on, out of the event chunks from that one upwards; false: they do not follow one another, one is not right, or they have not so many.
func (x index) up(b []byte, start int, from uint64, count int) ([]api.Event, bool) {
	var events []api.Event
	next, known := uint64(0), false
	for _, place := range x.places[start:] {
		p, is := pieceAt(b, place)
		if !is || known && p.first != next {
			return nil, false
		}
		for i, e := range p.list {
			if p.first+uint64(i) >= from && len(events) < count {
				events = append(events, e)
			}
		}
		if len(events) == count {
			return events, true
		}
		next, known = p.behind(), true
	}
	return nil, false
}

// pieceAt: the event chunk at a place, as it is by itself; false: there is none.
func pieceAt(b []byte, place int) (piece, bool) {
	body, e := bodyAt(b, place)
	if e != api.OK {
		return piece{}, false
	}
	return pieceOf(body)
}
