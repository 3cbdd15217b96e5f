package replica_test

import (
	"math/rand/v2"
	"slices"
	"testing"

	"amnesia/api"
	"amnesia/message"
	"amnesia/replica"
	"amnesia/wire"
)

// P13.2: a frame that does not decode changes nothing and sends nothing.

// expectLetGo: with Decode's error, which is not OK.
func expectLetGo(t *testing.T, what string, r *replica.Replica, c api.Config, want api.State, b []byte) api.Errno {
	t.Helper()
	l, e := r.Handle(b)
	if _, wrong := message.Decode(c, b); e != wrong || e == api.OK || len(l) > 0 {
		t.Fatalf("%s: %v %d, want %d: % x", what, l, e, wrong, b)
	}
	expectLooks(t, what, r, want)
	return e
}

// sealed: a frame of that body, whose sum is right.
func sealed(t *testing.T, body ...byte) []byte {
	t.Helper()
	b, e := wire.Seal(body)
	if e != api.OK {
		t.Fatal(e)
	}
	return b
}

func TestFramesThatDoNotDecode(t *testing.T) {
	for name, state := range everyState() {
		for _, c := range []api.Config{five, unguarded(five)} {
			s := state()
			r := with(t, c, s)
			for _, k := range kinds() {
				whole := frame(t, c, msgOf(k, 3))
				for at := range whole {
					expectLetGo(t, name+", cut off", r, c, s, whole[:at])
					mask := byte(1) << (at % 8)
					spoilt := slices.Clone(whole)
					spoilt[at] ^= mask
					expectLetGo(t, name+", a byte changed", r, c, s, spoilt)
				}
				expectLetGo(t, name+", a byte more", r, c, s, append(slices.Clone(whole), 0))
				expectLetGo(t, name+", a byte ahead", r, c, s, append([]byte{0}, whole...))
				expectLetGo(t, name+", twice", r, c, s, append(slices.Clone(whole), whole...))
			}
			if l := handle(t, r, c, msgOf(api.KindReply, 3)); len(l) > 0 { // it goes on
				t.Fatal(l)
			}
		}
	}
}

// Each byte of a frame, turned into each other one, at a replica that would do something about the right one.
func TestEveryByteTurned(t *testing.T) {
	s := aPrimary()
	r := with(t, five, s)
	whole := frame(t, five, msgOf(api.KindRequest, 0))
	for at := range whole {
		for mask := 1; mask < 256; mask++ {
			spoilt := slices.Clone(whole)
			spoilt[at] ^= byte(mask)
			if l, e := r.Handle(spoilt); e == api.OK || len(l) > 0 {
				t.Fatal(at, mask, l, e)
			}
		}
	}
	expectLooks(t, "turned", r, s)
	if l, e := r.Handle(whole); e != api.OK || len(l) != 4 {
		t.Error(l, e)
	}
}

// Which error is which.
func TestErrorsOfFrames(t *testing.T) {
	r := with(t, three, api.State{Self: 0, Status: api.StatusNormal, Log: logOf(3), Commit: 1, Vector: los(0, 0, 0)})
	s := r.State()
	right := frame(t, three, api.Msg{Kind: api.KindPrepareOK, Node: 1, Place: 3, Vector: los(0, 0, 0)})
	for what, fault := range map[string]struct {
		b []byte
		e api.Errno
	}{
		"nil":                {nil, api.ErrShort},
		"empty":              {[]byte{}, api.ErrShort},
		"cut off":            {right[:len(right)-1], api.ErrShort},
		"a byte more":        {append(slices.Clone(right), 7), api.ErrTail},
		"no frame":           {[]byte("a text that no call has made"), api.ErrMagic},
		"as long as may be":  {make([]byte, api.MaxFrame), api.ErrMagic},
		"too long":           {make([]byte, api.MaxFrame+1), api.ErrLong},
		"no kind":            {sealed(t, 0), api.ErrKind},
		"a kind too great":   {sealed(t, 1, 15), api.ErrKind},
		"no body":            {sealed(t), api.ErrShort},
		"half a number":      {sealed(t, 1), api.ErrShort},
		"a number's form":    {sealed(t, 2, 0, 4), api.ErrForm},
		"bytes behind":       {sealed(t, 1, 11, 1, 1, 0, 1, 3, 0, 0, 0, 0, 0, 0, 9), api.ErrTail},
		"too great a number": {sealed(t, 1, 11, 8, 255, 255, 255, 255, 255, 255, 255, 255), api.ErrLong},
		"no replica":         {sealed(t, 1, 11, 1, 3, 0, 1, 3, 0, 0, 0, 0, 0, 0), api.ErrField},
	} {
		if e := expectLetGo(t, what, r, three, s, fault.b); e != fault.e {
			t.Errorf("%s: %d, want %d", what, e, fault.e)
		}
	}
}

// What may be in one group, and not in this one.
func TestFramesOfAnotherGroup(t *testing.T) {
	s := aPrimary()
	r := with(t, five, s)
	for _, k := range kinds() {
		if isClients(k) {
			continue
		}
		for _, c := range []api.Config{three, seven} { // their crash vectors have other lengths
			m := msgOf(k, 2)
			m.Log, m.Commit = nil, 0
			m.Vector = make(api.Vector, 2*c.F+1)
			if k == api.KindRecovery {
				m.Vector[2] = m.Draw
			}
			if k == api.KindPrepare || k == api.KindCommit || k == api.KindStartView {
				m.View = 2*(2*c.F+1) + 2
			}
			if e := expectLetGo(t, "another length", r, five, s, frame(t, c, m)); e != api.ErrField {
				t.Error(k, e)
			}
		}
	}
	roomier := api.Config{F: 2, Room: 7, Patience: 9}
	for _, k := range []api.Kind{api.KindDoViewChange, api.KindStartView, api.KindRecoveryResponse, api.KindNewState} {
		m := msgOf(k, 3)
		m.Log = logOf(7)
		if e := expectLetGo(t, "more room", r, five, s, frame(t, roomier, m)); e != api.ErrField {
			t.Error(k, e)
		}
	}
	for _, k := range []api.Kind{api.KindPrepare, api.KindPrepareOK, api.KindReply, api.KindQuery} {
		m := msgOf(k, 3)
		m.Place = 7
		if e := expectLetGo(t, "a place beyond", r, five, s, frame(t, roomier, m)); e != api.ErrField {
			t.Error(k, e)
		}
	}
	// Patience, and whether crash vectors are looked at, are not in frames.
	alike := unguarded(api.Config{F: 2, Room: 6, Patience: 100})
	if l, e := r.Handle(frame(t, alike, msgOf(api.KindRequest, 0))); e != api.OK || len(l) != 4 {
		t.Error(l, e)
	}
}

// Bytes at random, and right frames with bytes turned at random, between calls that do something.
func TestWildBytes(t *testing.T) {
	r := rand.New(rand.NewPCG(13, 5))
	met := make(map[api.Errno]int)
	for range 1500 {
		c := pick(r, configs()...)
		made := some(t, r, c)
		for range 8 {
			s := own(made.State())
			b := frame(t, c, someMsg(r, c, s, pick(r, kinds()...)))
			switch r.IntN(4) {
			case 0:
				b = make([]byte, r.IntN(60))
				for i := range b {
					b[i] = byte(r.Uint32())
				}
			case 1:
				for range 1 + r.IntN(3) {
					b[r.IntN(len(b))] ^= byte(r.Uint32())
				}
			case 2: // a body that is turned ahead of its sum
				body, _ := wire.Open(b)
				body[r.IntN(len(body))] ^= byte(1 + r.IntN(255))
				b = sealed(t, body...)
			}
			if _, wrong := message.Decode(c, b); wrong != api.OK {
				met[expectLetGo(t, "wild", made, c, s, b)]++
			} else if _, e := made.Handle(b); e != api.OK {
				t.Fatal(e)
			}
		}
	}
	for _, e := range []api.Errno{api.ErrShort, api.ErrMagic, api.ErrSum, api.ErrKind, api.ErrField, api.ErrForm} {
		if met[e] < 10 {
			t.Error("too few:", e, met)
		}
	}
}
