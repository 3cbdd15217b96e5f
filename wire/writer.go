package wire

import (
	"math/bits"
	"slices"

	"amnesia/api"
)

// Writer lays numbers, counts and texts down, one behind the other. Its zero value is empty and ready.
type Writer struct {
	pile *pile
	size int // how many of the pile's bytes are this Writer's
	err  api.Errno
}

// pile is bytes that only ever grow. It stands apart from the Writer, since a Writer that is copied as a value must not lay its bytes over those of its copy.
type pile struct {
	bytes []byte
}

// Number lays a number down.
func (w *Writer) Number(v uint64) {
	if w.ready() {
		w.lay(v, "")
	}
}

// Int lays a number from 0 on down. ErrArg: it is below 0.
func (w *Writer) Int(v int) {
	switch {
	case !w.ready():
	case v < 0:
		w.fail(api.ErrArg)
	default:
		w.lay(uint64(v), "")
	}
}

// Count lays a number of at most most down. ErrArg: one of the two is below 0; ErrLong: n is above most.
func (w *Writer) Count(n int, most int) {
	switch {
	case !w.ready():
	case n < 0 || most < 0:
		w.fail(api.ErrArg)
	case n > most:
		w.fail(api.ErrLong)
	default:
		w.lay(uint64(n), "")
	}
}

// Text lays a text of at most most bytes down. ErrArg: most is below 0; ErrLong: the text is longer.
func (w *Writer) Text(s string, most int) {
	switch {
	case !w.ready():
	case most < 0:
		w.fail(api.ErrArg)
	case len(s) > most:
		w.fail(api.ErrLong)
	default:
		w.lay(uint64(len(s)), s)
	}
}

// Bytes: all that was laid down, or the first error. ErrMade: the Writer is nil.
func (w *Writer) Bytes() ([]byte, api.Errno) {
	switch {
	case w == nil:
		return nil, api.ErrMade
	case w.err != api.OK:
		return nil, w.err
	case w.pile == nil:
		return nil, api.OK
	}
	return slices.Clone(w.pile.bytes[:w.size]), api.OK
}

func (w *Writer) ready() bool {
	return w != nil && w.err == api.OK
}

// fail keeps the error alone: behind it the bytes are never asked for again.
func (w *Writer) fail(e api.Errno) {
	*w = Writer{err: e}
}

// lay puts a number and what belongs behind it at the end.
func (w *Writer) lay(v uint64, behind string) {
	p := w.own()
	p.bytes = append(appendNumber(p.bytes, v), behind...)
	w.size = len(p.bytes)
}

// own: the pile that ends with this Writer's bytes; a new one, if a copy of the Writer has gone on in the old one.
func (w *Writer) own() *pile {
	switch {
	case w.pile == nil:
		w.pile = &pile{}
	case len(w.pile.bytes) > w.size:
		w.pile = &pile{bytes: slices.Clone(w.pile.bytes[:w.size])}
	}
	return w.pile
}

// appendNumber puts a number's one form behind b: how many bytes it needs, then these, the highest first.
func appendNumber(b []byte, v uint64) []byte {
	k := (bits.Len64(v) + 7) / 8
	b = append(b, byte(k))
	for i := range k {
		b = append(b, byte(v>>(8*(k-1-i))))
	}
	return b
}
