package tape

import (
	"bytes"

	"amnesia/api"
	"amnesia/digest"
)

// Read: the recording in a file. ErrCut: it ends too early; ErrTape: a chunk that may not be, or bytes behind the end; ErrIndex: a foot, or a length behind it, that does not fit. The number is the place of the first error.
func Read(b []byte) (api.Setup, []api.Event, api.Errno, int) {
	t, e := scan(b)
	if e != api.OK {
		return api.Setup{}, nil, e, t.at
	}
	return t.setup, t.events, api.OK, 0
}

// Salvage: what is right of a file from its first byte on, and how many bytes that is.
func Salvage(b []byte) (api.Setup, []api.Event, int) {
	t, _ := scan(b)
	return t.setup, t.events, t.at
}

// told is what was read so far.
type told struct {
	setup  api.Setup
	events []api.Event
	places []int // of the event chunks
	last   laid  // how full the latest of them is
	at     int   // all bytes ahead of it are right; where reading fails, it fails there
}

// scan reads a file chunk by chunk, up to its end or to the first error.
func scan(b []byte) (told, api.Errno) {
	var t told
	body, e := bodyAt(b, 0)
	if e != api.OK {
		goto end
	}
	if e = t.takeHead(body); e != api.OK {
		goto end
	}
	for isFoot := false; !isFoot; {
		if body, e = bodyAt(b, t.at); e != api.OK {
			goto end
		}
		if isFoot, e = t.take(b, body); e != api.OK {
			goto end
		}
	}
	e = t.takeTail(b, added+len(body))
end:
	return t, e
}

func (t *told) takeHead(body []byte) api.Errno {
	setup, is := setupOf(body)
	if !is {
		return api.ErrTape
	}
	t.setup = setup
	t.pass(body)
	return api.OK
}

// take: the next chunk, which is one of events or the foot; true: it was the foot.
func (t *told) take(b, body []byte) (bool, api.Errno) {
	if p, is := pieceOf(body); is {
		return false, t.takePiece(p, body)
	}
	if _, is := footOf(body); is {
		return true, t.takeFoot(b, body)
	}
	return false, api.ErrTape
}

func (t *told) takePiece(p piece, body []byte) api.Errno {
	if p.first != uint64(len(t.events)) || len(t.events)+p.events > api.MaxEvents || t.last.takes(p.lead) {
		return api.ErrTape
	}
	t.events = append(t.events, p.list...)
	t.places = append(t.places, t.at)
	t.last = p.laid
	t.pass(body)
	return api.OK
}

// takeFoot: there is just one foot that fits what stands ahead of it.
func (t *told) takeFoot(b, body []byte) api.Errno {
	if !bytes.Equal(body, footBody(len(t.events), t.places, digest.Sum(b[:t.at:t.at]))) {
		return api.ErrIndex
	}
	t.pass(body)
	return api.OK
}

// takeTail: what stands behind the foot, whose frame has so many bytes.
func (t *told) takeTail(b []byte, foot int) api.Errno {
	left := b[t.at:len(b):len(b)]
	switch {
	case len(left) < tailSize:
		return api.ErrCut
	case numberOf(left[:tailSize]) != foot:
		return api.ErrIndex
	}
	t.at += tailSize
	if len(left) > tailSize {
		return api.ErrTape
	}
	return api.OK
}

// pass goes behind a chunk that is right.
func (t *told) pass(body []byte) { t.at += added + len(body) }
