package digest

import "amnesia/api"

// Hasher takes bytes piece by piece. New makes one. It is a value through and through, so that a copy of it goes its own way.
type Hasher struct {
	made  bool
	words state      // behind all whole blocks that were taken
	rest  [size]byte // what was taken behind these; 0 from there on
	taken int        // how many bytes, in all
}

// New: an empty one.
func New() *Hasher {
	h := fresh()
	return &h
}

func fresh() Hasher { return Hasher{made: true, words: first()} }

// isMade: New has made it.
func (h *Hasher) isMade() bool { return h != nil && h.made }

// Write takes some more.
func (h *Hasher) Write(b []byte) {
	if h.isMade() {
		h.take(b)
	}
}

// Sum: the digest of all that was taken.
func (h *Hasher) Sum() api.Hash {
	if !h.isMade() {
		return api.Hash{}
	}
	filled := *h // the filling goes into a copy, since more may come
	return filled.end()
}

// Len: how many bytes were taken.
func (h *Hasher) Len() int {
	if !h.isMade() {
		return 0
	}
	return h.taken
}

// Reset: as at the beginning.
func (h *Hasher) Reset() {
	if h.isMade() {
		*h = fresh()
	}
}

func (h *Hasher) take(b []byte) {
	at := h.taken % size
	h.taken += len(b)
	if at > 0 {
		n := copy(h.rest[at:], b)
		if at+n < size {
			return
		}
		h.words.mix(h.rest[:])
		h.rest = [size]byte{}
		b = b[n:]
	}
	for len(b) >= size {
		h.words.mix(b[:size])
		b = b[size:]
	}
	copy(h.rest[:], b)
}

// end fills what was taken, and answers the digest. Nothing can be taken behind it.
func (h *Hasher) end() api.Hash {
	bits := uint64(h.taken) * 8
	zeros := (2*size - 9 - h.taken%size) % size // the byte 128 ahead of them, and 8 bytes behind them, end a block
	var filling [size + 8]byte
	filling[0] = 128
	for i := range 8 {
		filling[1+zeros+i] = byte(bits >> (56 - 8*i))
	}
	h.take(filling[:1+zeros+8])
	return h.words.hash()
}
