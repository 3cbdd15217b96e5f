package wire

import (
	"slices"

	"amnesia/api"
)

// Reader goes through bytes from the first on, as they were when NewReader made it.
type Reader struct {
	made  bool
	bytes []byte
	at    int
	err   api.Errno
}

// NewReader: a reader of these bytes.
func NewReader(b []byte) *Reader {
	return &Reader{made: true, bytes: slices.Clone(b)}
}

// Number reads a number. ErrShort: the bytes end too early; ErrForm: they are not a number's one form.
func (r *Reader) Number() uint64 {
	if !r.ready() {
		return 0
	}
	v, size, e := takeNumber(r.bytes[r.at:])
	r.step(size, e)
	return v
}

// Int reads a number of at most most. ErrArg: most is below 0; Number's errors; ErrLong: it is above most.
func (r *Reader) Int(most int) int {
	return r.Count(most)
}

// Count does what Int does.
func (r *Reader) Count(most int) int {
	if !r.ready() {
		return 0
	}
	n, size, e := takeCount(r.bytes[r.at:], most)
	r.step(size, e)
	return n
}

// Text reads a text of at most most bytes. Count's errors for its length; ErrShort: fewer bytes are left.
func (r *Reader) Text(most int) string {
	if !r.ready() {
		return ""
	}
	s, size, e := takeText(r.bytes[r.at:], most)
	r.step(size, e)
	return s
}

// At: how many bytes have been read.
func (r *Reader) At() int {
	if r == nil {
		return 0
	}
	return r.at
}

// Left: how many bytes are left.
func (r *Reader) Left() int {
	if r == nil {
		return 0
	}
	return len(r.bytes) - r.at
}

// End: the first error; ErrTail, if bytes are left; OK. ErrMade: NewReader did not make it.
func (r *Reader) End() api.Errno {
	switch {
	case r == nil || !r.made:
		return api.ErrMade
	case r.err != api.OK:
		return r.err
	case r.Left() > 0:
		return api.ErrTail
	}
	return api.OK
}

func (r *Reader) ready() bool {
	return r != nil && r.made && r.err == api.OK
}

// step goes behind what was read, or keeps the error. What is read is looked at whole ahead of it, so that what fails moves nothing.
func (r *Reader) step(size int, e api.Errno) {
	r.at += size
	r.err = e
}

// takeNumber: the number with which b begins, and how many bytes it has.
func takeNumber(b []byte) (uint64, int, api.Errno) {
	if len(b) == 0 {
		return 0, 0, api.ErrShort
	}
	k, digits := int(b[0]), b[1:]
	switch {
	case k > 8:
		return 0, 0, api.ErrForm
	case len(digits) < k:
		return 0, 0, api.ErrShort
	case k > 0 && digits[0] == 0:
		return 0, 0, api.ErrForm
	}
	var v uint64
	for i := range k {
		v = v<<8 | uint64(digits[i])
	}
	return v, 1 + k, api.OK
}

// takeCount: the number of at most most with which b begins, and how many bytes it has.
func takeCount(b []byte, most int) (int, int, api.Errno) {
	if most < 0 {
		return 0, 0, api.ErrArg
	}
	v, size, e := takeNumber(b)
	switch {
	case e != api.OK:
		return 0, 0, e
	case v > uint64(most):
		return 0, 0, api.ErrLong
	}
	return int(v), size, api.OK
}

// takeText: the text of at most most bytes with which b begins, and how many bytes it has with its length.
func takeText(b []byte, most int) (string, int, api.Errno) {
	n, size, e := takeCount(b, most)
	switch {
	case e != api.OK:
		return "", 0, e
	case len(b)-size < n:
		return "", 0, api.ErrShort
	}
	return string(b[size : size+n]), size + n, api.OK
}
