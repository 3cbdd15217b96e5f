package nonce

import (
	"math"

	"amnesia/api"
)

// Clock is a clock that never goes back.
type Clock struct {
	reading uint64
}

// NewClock: a clock with that reading.
func NewClock(at uint64) *Clock {
	return &Clock{reading: at}
}

// Now: the reading.
func (c *Clock) Now() uint64 {
	if c == nil {
		return 0
	}
	return c.reading
}

// Set: the reading is that. ErrPast: it would go back.
func (c *Clock) Set(at uint64) api.Errno {
	switch {
	case c == nil:
		return api.OK
	case at < c.reading:
		return api.ErrPast
	}
	c.reading = at
	return api.OK
}

// Pass: the reading goes up by that. ErrEnd: it would go beyond 64 bits.
func (c *Clock) Pass(by uint64) api.Errno {
	switch {
	case c == nil:
		return api.OK
	case by > math.MaxUint64-c.reading:
		return api.ErrEnd
	}
	c.reading += by
	return api.OK
}

// Pairs is a source of a clock's readings with a count.
type Pairs struct {
	*Clock
	memory memory
}

// memory is all that a crash takes from a Pairs: the reading of its last draw, and how many it has made at it. At first it is nothing: no draw at any reading.
type memory struct {
	reading uint64
	made    uint64
}

// NewPairs: a source over a clock. ErrArg: there is no clock.
func NewPairs(c *Clock) (*Pairs, api.Errno) {
	if c == nil {
		return nil, api.ErrArg
	}
	return &Pairs{Clock: c}, api.OK
}

// Draw: the clock's reading and how many were drawn at it, this one too. ErrEnd: there were MaxCount of them.
func (p *Pairs) Draw() (api.Draw, api.Errno) {
	if p == nil {
		return api.Draw{}, api.OK
	}
	now := memory{reading: p.Now()}
	if p.memory.reading == now.reading {
		now.made = p.memory.made
	}
	if now.made == api.MaxCount {
		return api.Draw{}, api.ErrEnd
	}
	now.made++
	p.memory = now
	return api.Draw{Hi: now.reading, Lo: now.made}, api.OK
}

// Wipe: its memory is gone.
func (p *Pairs) Wipe() {
	if p != nil {
		p.memory = memory{}
	}
}
