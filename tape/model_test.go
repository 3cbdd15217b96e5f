package tape_test

import (
	"bytes"
	"crypto/sha256"
	"encoding/binary"
	"hash/crc32"
	"math"
	"slices"

	"amnesia/api"
)

// The chapter's words once more, over the standard library alone.

// number: a number's one form.
func number(v uint64) []byte {
	b := binary.BigEndian.AppendUint64(nil, v)
	b = bytes.TrimLeft(b, "\x00")
	return append([]byte{byte(len(b))}, b...)
}

func numbers(l ...int) []byte {
	var b []byte
	for _, v := range l {
		b = append(b, number(uint64(v))...)
	}
	return b
}

func text(b []byte) []byte { return append(numbers(len(b)), b...) }

// longer: a number with a 0 ahead of its first byte.
func longer(v uint64) []byte {
	b := number(v)
	return append([]byte{b[0] + 1, 0}, b[1:]...)
}

func framed(bodies ...[]byte) []byte {
	body := slices.Concat(bodies...)
	b := binary.BigEndian.AppendUint32([]byte("amn1"), uint32(len(body)))
	b = append(b, body...)
	return binary.LittleEndian.AppendUint32(b, crc32.ChecksumIEEE(b))
}

// modelPut: P22.1.
func modelPut(e api.Event) ([]byte, api.Errno) {
	if e.Kind < 1 || e.Kind > 12 {
		return nil, api.ErrEvent
	}
	b := numbers(int(e.Kind))
	long := false
	for _, field := range order {
		if !uses(e.Kind, field) {
			continue
		}
		for _, n := range numbersOf(&e)[field] {
			if *n < 0 {
				return nil, api.ErrEvent
			}
			b = append(b, numbers(*n)...)
		}
		switch field {
		case 'd':
			b = slices.Concat(b, number(e.Draw.Hi), number(e.Draw.Lo))
		case 'o':
			long = long || len(e.Op.Value) > 64
			b = append(b, text([]byte(e.Op.Value))...)
		case 'b':
			long = long || len(e.Bytes) > 16384
			b = append(b, text(e.Bytes)...)
		}
	}
	if long {
		return nil, api.ErrLong
	}
	return b, api.OK
}

// cursor goes through bytes, with the errors that chapter 1 names.
type cursor struct {
	b []byte
	e api.Errno
}

func (c *cursor) number(most uint64) uint64 {
	if c.e != api.OK {
		return 0
	}
	var v uint64
	switch {
	case len(c.b) == 0:
		c.e = api.ErrShort
	case c.b[0] > 8:
		c.e = api.ErrForm
	case len(c.b) < 1+int(c.b[0]):
		c.e = api.ErrShort
	case c.b[0] > 0 && c.b[1] == 0:
		c.e = api.ErrForm
	default:
		for _, x := range c.b[1 : 1+c.b[0]] {
			v = v<<8 + uint64(x)
		}
		if v > most {
			c.e = api.ErrLong
			return 0
		}
		c.b = c.b[1+c.b[0]:]
	}
	return v
}

func (c *cursor) text(most uint64) []byte {
	n := c.number(most)
	if c.e == api.OK && n > uint64(len(c.b)) {
		c.e = api.ErrShort
	}
	if c.e != api.OK {
		return nil
	}
	s := c.b[:n]
	c.b = c.b[n:]
	return s
}

// is: was all read, and the whole of it?
func (c *cursor) is() bool { return c.e == api.OK && len(c.b) == 0 }

// modelGet: P22.1.
func modelGet(b []byte) (api.Event, api.Errno) {
	c := &cursor{b: b}
	e := api.Event{Kind: api.EventKind(c.number(greatest))}
	if c.e != api.OK {
		return api.Event{}, c.e
	}
	if usedBy[e.Kind] == "" {
		return api.Event{}, api.ErrEvent
	}
	for _, field := range order {
		if !uses(e.Kind, field) {
			continue
		}
		for _, n := range numbersOf(&e)[field] {
			*n = int(c.number(greatest))
		}
		switch field {
		case 'd':
			e.Draw.Hi = c.number(math.MaxUint64)
			e.Draw.Lo = c.number(math.MaxUint64)
		case 'o':
			e.Op.Value = string(c.text(64))
		case 'b':
			e.Bytes = slices.Clone(c.text(16384))
		}
	}
	if c.e == api.OK && len(c.b) > 0 {
		c.e = api.ErrTail
	}
	if c.e != api.OK {
		return api.Event{}, c.e
	}
	return e, api.OK
}

func modelHead(s api.Setup) []byte {
	c := s.Config
	unguarded := 0
	if c.Unguarded {
		unguarded = 1
	}
	b := numbers(1, 1, c.F, c.Room, c.Patience, unguarded, len(s.Clients))
	for _, client := range s.Clients {
		b = append(b, numbers(client.Number)...)
	}
	return b
}

// piece: an event chunk's body with these events' bytes.
func piece(first int, events ...[]byte) []byte {
	b := numbers(2, first, len(events))
	for _, e := range events {
		b = append(b, text(e)...)
	}
	return b
}

// pieces: the bodies of these events' chunks.
func pieces(events []api.Event) [][]byte {
	var bodies [][]byte
	var at [][]byte
	first := 0
	for i, e := range events {
		b, err := modelPut(e)
		if err != api.OK {
			panic("the test's own event may not be")
		}
		if len(at) == 32 || len(at) > 0 && len(piece(first, append(slices.Clone(at), b)...)) > 32768-12 {
			bodies, at, first = append(bodies, piece(first, at...)), nil, i
		}
		at = append(at, b)
	}
	if len(at) > 0 {
		bodies = append(bodies, piece(first, at...))
	}
	return bodies
}

// modelFoot: the foot's body of a file that has these bytes ahead of it.
func modelFoot(ahead []byte, events int, places ...int) []byte {
	sum := sha256.Sum256(ahead)
	return slices.Concat(numbers(3, events, len(places)), numbers(places...), text(sum[:]))
}

// footed: the foot with that body, and its length behind it.
func footed(ahead, body []byte) []byte {
	foot := framed(body)
	return binary.BigEndian.AppendUint32(slices.Concat(ahead, foot), uint32(len(foot)))
}

// laidOut: a file with that head's body and these event chunks' ones, and a foot that fits them.
func laidOut(events int, head []byte, bodies ...[]byte) []byte {
	b := framed(head)
	var places []int
	for _, body := range bodies {
		places = append(places, len(b))
		b = append(b, framed(body)...)
	}
	return footed(b, modelFoot(b, events, places...))
}

// modelFile: P22.2.
func modelFile(s api.Setup, events []api.Event) []byte {
	return laidOut(len(events), modelHead(s), pieces(events)...)
}

// modelSetup: of a head's body; false: it is none that may be.
func modelSetup(body []byte) (api.Setup, bool) {
	c := &cursor{b: body}
	most := func(n uint64) int { return int(c.number(n)) }
	kind, version := most(1), most(1)
	s := api.Setup{Config: api.Config{F: most(3), Room: most(256), Patience: most(100), Unguarded: most(1) == 1}}
	for range most(16) {
		s.Clients = append(s.Clients, api.ClientSetup{Number: most(greatest)})
	}
	return s, c.is() && kind == 1 && version == 1 && s.Config.F >= 1 && s.Config.Room >= 1 && s.Config.Patience >= 6
}

// modelBody: P22.4, 1.
func modelBody(b []byte, p int) ([]byte, api.Errno) {
	left := b[p:]
	if len(left) < 12 {
		return nil, api.ErrCut
	}
	n := int(binary.BigEndian.Uint32(left[4:]))
	if !bytes.HasPrefix(left, []byte("amn1")) || n > 32768-12 {
		return nil, api.ErrTape
	}
	if len(left) < n+12 {
		return nil, api.ErrCut
	}
	if !bytes.Equal(framed(left[8:8+n]), left[:n+12]) {
		return nil, api.ErrTape
	}
	return left[8 : 8+n], api.OK
}

// modelPiece: an event chunk by itself: its first event's number, its events, and how many bytes the first one's text has.
func modelPiece(body []byte) (uint64, []api.Event, int, bool) {
	c := &cursor{b: body}
	kind, first, n := c.number(math.MaxUint64), c.number(math.MaxUint64), c.number(math.MaxUint64)
	if c.e != api.OK || kind != 2 || n < 1 || n > 32 {
		return 0, nil, 0, false
	}
	var events []api.Event
	lead := 0
	for i := range n {
		b := c.text(math.MaxUint64)
		e, err := modelGet(b)
		if c.e != api.OK || err != api.OK {
			return 0, nil, 0, false
		}
		if i == 0 {
			lead = len(text(b))
		}
		events = append(events, e)
	}
	return first, events, lead, c.is()
}

// modelTells: what a foot's body tells.
func modelTells(body []byte) (events uint64, places []uint64, sum []byte, is bool) {
	c := &cursor{b: body}
	kind, events, n := c.number(math.MaxUint64), c.number(math.MaxUint64), c.number(math.MaxUint64)
	for range n {
		if c.e != api.OK {
			return
		}
		places = append(places, c.number(math.MaxUint64))
	}
	sum = c.text(math.MaxUint64)
	return events, places, sum, c.is() && kind == 3 && len(sum) == 32
}

// reading is what Read and Salvage answer of a file.
type reading struct {
	setup  api.Setup
	events []api.Event
	e      api.Errno
	at     int
	saved  int // bytes
}

// modelRead: P22.4 and P22.5.
func modelRead(b []byte) reading {
	var r reading
	fail := func(e api.Errno, at int) reading {
		r.e, r.at = e, at
		return r
	}
	body, e := modelBody(b, 0)
	if e != api.OK {
		return fail(e, 0)
	}
	s, is := modelSetup(body)
	if !is {
		return fail(api.ErrTape, 0)
	}
	r.setup = s
	p := 12 + len(body)
	var places []int
	last, held := 0, 0 // of the event chunk ahead: bytes of its body, events
	for {
		r.saved = p
		body, e := modelBody(b, p)
		if e != api.OK {
			return fail(e, p)
		}
		if _, _, _, is := modelTells(body); is {
			if !bytes.Equal(body, modelFoot(b[:p], len(r.events), places...)) {
				return fail(api.ErrIndex, p)
			}
			break
		}
		first, events, lead, is := modelPiece(body)
		fits := held > 0 && held < 32 && last+lead <= 32768-12
		if !is || first != uint64(len(r.events)) || fits || len(r.events)+len(events) > 4096 {
			return fail(api.ErrTape, p)
		}
		r.events, places = append(r.events, events...), append(places, p)
		last, held = len(body), len(events)
		p += 12 + len(body)
	}
	foot := 12 + int(binary.BigEndian.Uint32(b[p+4:]))
	p += foot
	r.saved = p
	switch {
	case len(b) < p+4:
		return fail(api.ErrCut, p)
	case int(binary.BigEndian.Uint32(b[p:])) != foot:
		return fail(api.ErrIndex, p)
	}
	r.saved = p + 4
	if len(b) > p+4 {
		return fail(api.ErrTape, p+4)
	}
	return r
}

// modelIndex: P22.6; and how many events the foot tells.
func modelIndex(b []byte) ([]int, uint64, api.Errno) {
	if len(b) < 4 {
		return nil, 0, api.ErrCut
	}
	own := len(b) - 4 - int(binary.BigEndian.Uint32(b[len(b)-4:]))
	if own < 0 {
		return nil, 0, api.ErrCut
	}
	body, e := modelBody(b[:len(b)-4], own)
	if e != api.OK || own+12+len(body) != len(b)-4 {
		return nil, 0, api.ErrIndex
	}
	events, told, _, is := modelTells(body)
	if !is || (events > 0) != (len(told) > 0) {
		return nil, 0, api.ErrIndex
	}
	var places []int
	for i, p := range told {
		if p < 1 || p >= uint64(own) || i > 0 && p <= told[i-1] {
			return nil, 0, api.ErrIndex
		}
		places = append(places, int(p))
	}
	return places, events, api.OK
}

// modelSeek: P22.7.
func modelSeek(b []byte, from, count int) ([]api.Event, api.Errno) {
	places, told, e := modelIndex(b)
	if e != api.OK {
		return nil, e
	}
	if from < 0 || count < 0 || uint64(from) > told || uint64(count) > told-uint64(from) {
		return nil, api.ErrArg
	}
	if count == 0 {
		return nil, api.OK
	}
	at := func(i int) (uint64, []api.Event, bool) {
		body, e := modelBody(b, places[i])
		if e != api.OK {
			return 0, nil, false
		}
		first, events, _, is := modelPiece(body)
		return first, events, is
	}
	i := len(places) - 1
	for ; ; i-- {
		if i < 0 {
			return nil, api.ErrTape
		}
		first, _, is := at(i)
		if !is {
			return nil, api.ErrTape
		}
		if first <= uint64(from) {
			break
		}
	}
	begin, all, _ := at(i) // one behind the other, from event begin on
	for i++; begin+uint64(len(all)) < uint64(from)+uint64(count); i++ {
		if i == len(places) {
			return nil, api.ErrTape
		}
		first, events, is := at(i)
		if !is || first != begin+uint64(len(all)) {
			return nil, api.ErrTape
		}
		all = append(all, events...)
	}
	return all[from-int(begin):][:count], api.OK
}
