package tape

import (
	"math"

	"amnesia/api"
	"amnesia/wire"
)

// field is a part of an event, behind its kind.
type field int

const (
	noField field = iota
	nodeField
	clientField
	indexField
	atField
	countField
	cutField
	drawField
	opField
	bytesField
)

// uses: what each kind of events uses, in the order in which it is laid down. Texts stand behind all numbers, so the first thing that may not be laid down is a number, if one may not.
var uses = [...][3]field{
	api.EventSubmit:  {clientField, opField},
	api.EventRetry:   {clientField},
	api.EventDeliver: {indexField, cutField},
	api.EventDrop:    {indexField},
	api.EventCopy:    {indexField},
	api.EventSpoil:   {indexField, atField, countField},
	api.EventInject:  {nodeField, atField, bytesField},
	api.EventTick:    {nodeField, cutField},
	api.EventCrash:   {nodeField},
	api.EventRestart: {nodeField, cutField, drawField},
	api.EventRound:   {countField},
	api.EventQuery:   {nodeField, clientField, opField},
}

// PutEvent: an event's bytes. ErrEvent: its kind is none, or a number that it uses is below 0; ErrLong: its value or its bytes are too many.
func PutEvent(e api.Event) ([]byte, api.Errno) {
	if !isKind(e.Kind) {
		return nil, api.ErrEvent
	}
	var w wire.Writer
	w.Int(int(e.Kind))
	for _, f := range uses[e.Kind] {
		put(&w, &e, f)
	}
	b, err := w.Bytes()
	if err == api.ErrArg {
		return nil, api.ErrEvent
	}
	return b, err
}

// GetEvent: the event of these bytes. The reader's first error; ErrEvent: the first number is no kind; ErrTail: bytes are left.
func GetEvent(b []byte) (api.Event, api.Errno) {
	r := wire.NewReader(b)
	e := api.Event{Kind: api.EventKind(r.Int(math.MaxInt))}
	switch {
	case r.At() == 0: // it has no first number
		return api.Event{}, r.End()
	case !isKind(e.Kind):
		return api.Event{}, api.ErrEvent
	}
	for _, f := range uses[e.Kind] {
		get(r, &e, f)
	}
	if err := r.End(); err != api.OK {
		return api.Event{}, err
	}
	return e, api.OK
}

func isKind(k api.EventKind) bool {
	return k >= api.EventSubmit && k <= api.EventQuery
}

// put lays a field down.
func put(w *wire.Writer, e *api.Event, f field) {
	switch f {
	case noField:
	case drawField:
		w.Number(e.Draw.Hi)
		w.Number(e.Draw.Lo)
	case opField:
		w.Int(e.Op.Kind)
		w.Int(e.Op.Slot)
		w.Text(e.Op.Value, api.MaxValue)
	case bytesField:
		w.Text(string(e.Bytes), api.MaxTaped)
	default:
		w.Int(*numberAt(e, f))
	}
}

// get reads a field, as put lays it down.
func get(r *wire.Reader, e *api.Event, f field) {
	switch f {
	case noField:
	case drawField:
		e.Draw = api.Draw{Hi: r.Number(), Lo: r.Number()}
	case opField:
		e.Op = api.Op{Kind: r.Int(math.MaxInt), Slot: r.Int(math.MaxInt), Value: r.Text(api.MaxValue)}
	case bytesField:
		e.Bytes = []byte(r.Text(api.MaxTaped))
	default:
		*numberAt(e, f) = r.Int(math.MaxInt)
	}
}

// numberAt: where a field that is a plain number lies in an event.
func numberAt(e *api.Event, f field) *int {
	switch f {
	case nodeField:
		return &e.Node
	case clientField:
		return &e.Client
	case indexField:
		return &e.Index
	case atField:
		return &e.At
	case countField:
		return &e.Count
	}
	return &e.Cut
}
