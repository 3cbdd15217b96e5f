package tape

import (
	"amnesia/api"
	"amnesia/wire"
)

// laid is how full an event chunk is. Who lays events down and who reads them ask it alike which chunk an event belongs to.
type laid struct {
	events int
	size   int // bytes of its body
}

// takes: does an event whose text has so many bytes go into it? Without events it is no chunk yet, and takes none.
func (l laid) takes(text int) bool {
	return l.events > 0 && l.events < api.MaxChunk && l.size+text <= mostBody
}

// chunk is the event chunk at hand. The writer that it embeds has its events' texts alone: how many there are, which stands ahead of them, is known at its end.
type chunk struct {
	wire.Writer
	laid
	first int // the number of its first event
}

// chunkFrom: one without events as yet, from that event on. Any number of events that a chunk may have takes as many bytes as 1 does, so its size is known ahead.
func chunkFrom(first int) chunk {
	return chunk{laid: laid{size: len(opening(first, 1))}, first: first}
}

// lay puts the next event's bytes into it.
func (c *chunk) lay(event []byte) {
	c.Text(string(event), api.MaxFrame)
	c.events++
	c.size += textSize(len(event))
}

// frame: the chunk as it stands in a file.
func (c *chunk) frame() []byte {
	texts, _ := c.Bytes() // an event's bytes are fewer than a frame's
	return seal(append(opening(c.first, c.events), texts...))
}

// opening: what stands in an event chunk's body ahead of the events.
func opening(first, events int) []byte {
	var w wire.Writer
	w.Int(eventChunk)
	w.Int(first)
	w.Int(events)
	b, _ := w.Bytes() // none of them is below 0
	return b
}

// textSize: how many bytes a text of so many bytes takes, with its length.
func textSize(n int) int {
	var w wire.Writer
	w.Int(n)
	length, _ := w.Bytes() // n is not below 0
	return len(length) + n
}

// piece is an event chunk that was read.
type piece struct {
	laid
	first uint64 // the number of its first event
	lead  int    // bytes of its first event's text
	list  []api.Event
}

// pieceOf: the event chunk with that body, as it is by itself; false: there is none.
func pieceOf(body []byte) (piece, bool) {
	r := wire.NewReader(body)
	if r.Number() != eventChunk {
		return piece{}, false
	}
	p := piece{laid: laid{size: len(body)}, first: r.Number()}
	p.events = r.Count(api.MaxChunk)
	opened := r.At()
	for range p.events {
		e, err := GetEvent([]byte(r.Text(api.MaxFrame)))
		if err != api.OK {
			return piece{}, false
		}
		if len(p.list) == 0 {
			p.lead = r.At() - opened
		}
		p.list = append(p.list, e)
	}
	return p, len(p.list) > 0 && r.End() == api.OK
}

// behind: the number of the event behind its last one.
func (p piece) behind() uint64 { return p.first + uint64(p.events) }
