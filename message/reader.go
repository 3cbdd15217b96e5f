package message

import (
	"math"

	"amnesia/api"
	"amnesia/wire"
)

// reader reads what a writer has laid down: layer 1's Reader, which keeps the first error, with the parts of messages beside its numbers and texts.
type reader struct {
	*wire.Reader
}

// readMessage: the message that a body is read as, whether it may be or not. wire's first error, or ErrKind: it begins with no kind; ErrTail: bytes are left.
func readMessage(body []byte) (api.Msg, api.Errno) {
	r := reader{wire.NewReader(body)}
	m := api.Msg{Kind: api.Kind(r.number())}
	switch {
	case r.At() == 0: // what fails moves nothing: the kind was not read
		return api.Msg{}, r.End()
	case !isKind(m.Kind):
		return api.Msg{}, api.ErrKind
	}
	for at, asked := range table[m.Kind] {
		if asked != unused {
			r.field(&m, column(at), asked)
		}
	}
	return m, r.End()
}

func (r reader) field(m *api.Msg, at column, asked rule) {
	switch at {
	case nodeColumn:
		m.Node = r.number()
	case viewColumn:
		m.View = r.number()
	case lastColumn:
		m.Last = r.number()
	case placeColumn:
		m.Place = r.number()
	case commitColumn:
		m.Commit = r.number()
	case drawColumn:
		m.Draw = r.draw()
	case entryColumn:
		m.Entry = r.name()
		if asked != entryName {
			m.Entry.Op = r.op()
		}
	case resultColumn:
		m.Result = r.result()
	case logColumn:
		m.Log = r.log()
	case vectorColumn:
		m.Vector = r.vector()
	}
}

// number takes any int: which of them may be, Check tells.
func (r reader) number() int {
	return r.Int(math.MaxInt)
}

func (r reader) draw() api.Draw {
	high := r.Number()
	return api.Draw{Hi: high, Lo: r.Number()}
}

func (r reader) name() api.Entry {
	client := r.number()
	return api.Entry{Client: client, Number: r.number()}
}

func (r reader) op() api.Op {
	kind, slot := r.number(), r.number()
	return api.Op{Kind: kind, Slot: slot, Value: r.Text(api.MaxValue)}
}

func (r reader) result() api.Result {
	code, slot := r.number(), r.number()
	return api.Result{Code: code, Slot: slot, Value: r.Text(api.MaxValue)}
}

func (r reader) log() []api.Entry {
	l := make([]api.Entry, r.Count(api.MaxLog))
	for i := range l {
		l[i] = r.name()
		l[i].Op = r.op()
	}
	return l
}

func (r reader) vector() api.Vector {
	v := make(api.Vector, r.Count(api.MaxNodes))
	for i := range v {
		v[i] = r.draw()
	}
	return v
}
