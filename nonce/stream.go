package nonce

import (
	"slices"

	"amnesia/api"
)

// Stream is a source of given draws.
type Stream struct {
	left []api.Draw
}

// NewStream: a source of these draws, as they are now.
func NewStream(l []api.Draw) *Stream {
	return &Stream{left: slices.Clone(l)}
}

// Draw: the next draw. ErrEnd: there is none.
func (s *Stream) Draw() (api.Draw, api.Errno) {
	switch {
	case s == nil:
		return api.Draw{}, api.OK
	case len(s.left) == 0:
		return api.Draw{}, api.ErrEnd
	}
	d := s.left[0]
	s.left = s.left[1:]
	return d, api.OK
}

// Left: how many are left.
func (s *Stream) Left() int {
	if s == nil {
		return 0
	}
	return len(s.left)
}
