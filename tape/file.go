package tape

import (
	"amnesia/api"
	"amnesia/wire"
)

// Kinds of chunks: the first number of a body.
const (
	headChunk = 1 + iota
	eventChunk
	footChunk
)

const (
	version  = 1 // the head's second number
	magic    = "amn1"
	ahead    = len(magic) + 4 // bytes of a frame ahead of its body
	added    = ahead + 4      // bytes of a frame beside its body
	mostBody = api.MaxFrame - added
	tailSize = 4 // bytes behind the foot's frame
)

// seal: the frame of a body that is known not to be too long.
func seal(body []byte) []byte {
	frame, _ := wire.Seal(body)
	return frame
}

// bodyAt: the body of the frame at a place, which b has. ErrCut: b ends ahead of the frame's end; ErrTape: there is no right one.
func bodyAt(b []byte, place int) ([]byte, api.Errno) {
	left := b[place:len(b):len(b)]
	if len(left) < added {
		return nil, api.ErrCut
	}
	size := numberOf(left[len(magic):ahead])
	switch {
	case string(left[:len(magic)]) != magic || size > mostBody:
		return nil, api.ErrTape
	case len(left) < added+size:
		return nil, api.ErrCut
	}
	body, e := wire.Open(left[: added+size : added+size])
	if e != api.OK {
		return nil, api.ErrTape
	}
	return body, api.OK
}

// headBody: the head of a setup that may be.
func headBody(setup api.Setup) []byte {
	var w wire.Writer
	w.Int(headChunk)
	w.Int(version)
	w.Int(setup.Config.F)
	w.Int(setup.Config.Room)
	w.Int(setup.Config.Patience)
	if setup.Config.Unguarded {
		w.Int(1)
	} else {
		w.Int(0)
	}
	w.Int(len(setup.Clients))
	for _, c := range setup.Clients {
		w.Int(c.Number)
	}
	b, _ := w.Bytes() // none of them is below 0
	return b
}

// setupOf: the setup in a head's body; false: it is no head, or the setup may not be.
func setupOf(body []byte) (api.Setup, bool) {
	r := wire.NewReader(body)
	if r.Number() != headChunk || r.Number() != version {
		return api.Setup{}, false
	}
	var s api.Setup
	s.Config.F = r.Int(api.MaxF)
	s.Config.Room = r.Int(api.MaxLog)
	s.Config.Patience = r.Int(api.MaxPatience)
	s.Config.Unguarded = r.Int(1) == 1
	for range r.Count(api.MaxClients) {
		s.Clients = append(s.Clients, api.ClientSetup{Number: r.Int(api.MaxNumber)})
	}
	if r.End() != api.OK || check(s) != api.OK {
		return api.Setup{}, false
	}
	return s, true
}

// footBody: the foot of a file with these event chunks, and that digest of all bytes ahead of it.
func footBody(events int, places []int, sum api.Hash) []byte {
	var w wire.Writer
	w.Int(footChunk)
	w.Int(events)
	w.Int(len(places))
	for _, p := range places {
		w.Int(p)
	}
	w.Text(string(sum[:]), len(sum))
	b, _ := w.Bytes() // none of them is below 0
	return b
}

// foot is what a foot tells of a file; its numbers may be any that a body can have.
type foot struct {
	events uint64
	places []uint64
}

// footOf: the foot with that body, whether or not it fits a file; false: there is none.
func footOf(body []byte) (foot, bool) {
	r := wire.NewReader(body)
	if r.Number() != footChunk {
		return foot{}, false
	}
	f := foot{events: r.Number()}
	chunks := r.Number()
	if chunks > uint64(r.Left()) {
		return foot{}, false // so many places do not stand behind it
	}
	for range chunks {
		f.places = append(f.places, r.Number())
	}
	size := len(api.Hash{})
	return f, len(r.Text(size)) == size && r.End() == api.OK
}

// fourBytes: a number in four bytes, the highest first, as a frame and a file's tail tell a length.
func fourBytes(n int) []byte {
	b := make([]byte, tailSize)
	for i := range b {
		b[i] = byte(n >> (24 - 8*i))
	}
	return b
}

// numberOf: the number in four bytes.
func numberOf(b []byte) int {
	n := 0
	for _, x := range b {
		n = n<<8 | int(x)
	}
	return n
}
