package message

import (
	"amnesia/api"
	"amnesia/wire"
)

// writer lays messages down: layer 1's Writer, which keeps the first error, with the parts of messages beside its numbers and texts.
type writer struct {
	wire.Writer
}

// message lays the kind down, then what the kind uses.
func (w *writer) message(m api.Msg) {
	w.Int(int(m.Kind))
	for at, asked := range table[m.Kind] {
		if asked != unused {
			w.field(m, column(at), asked)
		}
	}
}

func (w *writer) field(m api.Msg, at column, asked rule) {
	switch at {
	case nodeColumn:
		w.Int(m.Node)
	case viewColumn:
		w.Int(m.View)
	case lastColumn:
		w.Int(m.Last)
	case placeColumn:
		w.Int(m.Place)
	case commitColumn:
		w.Int(m.Commit)
	case drawColumn:
		w.draw(m.Draw)
	case entryColumn:
		w.name(m.Entry)
		if asked != entryName {
			w.op(m.Entry.Op)
		}
	case resultColumn:
		w.result(m.Result)
	case logColumn:
		w.log(m.Log)
	case vectorColumn:
		w.vector(m.Vector)
	}
}

func (w *writer) draw(d api.Draw) {
	w.Number(d.Hi)
	w.Number(d.Lo)
}

func (w *writer) name(e api.Entry) {
	w.Int(e.Client)
	w.Int(e.Number)
}

func (w *writer) op(o api.Op) {
	w.Int(o.Kind)
	w.Int(o.Slot)
	w.Text(o.Value, api.MaxValue)
}

func (w *writer) result(r api.Result) {
	w.Int(r.Code)
	w.Int(r.Slot)
	w.Text(r.Value, api.MaxValue)
}

func (w *writer) log(l []api.Entry) {
	w.Count(len(l), api.MaxLog)
	for _, e := range l {
		w.name(e)
		w.op(e.Op)
	}
}

func (w *writer) vector(v api.Vector) {
	w.Count(len(v), api.MaxNodes)
	for _, d := range v {
		w.draw(d)
	}
}
