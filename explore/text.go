package explore

import (
	"math"
	"slices"

	"amnesia/api"
	"amnesia/wire"
)

// writer lays down what makes two ends alike, each thing in one way alone. Nothing of an end is below 0, so that all of it can be laid down.
type writer struct {
	wire.Writer
}

// textOf: the text of what is laid down.
func textOf(lay func(*writer)) string {
	var w writer
	lay(&w)
	b, _ := w.Bytes()
	return string(b)
}

// text: an end's canonical text, with what the judge says of it: two ends of one setup are alike just if they have the same. How many replicas and clients there are the setup says.
func (there *end) text(j api.Judgement) string {
	p := pastOf(there.rows, j.Fault)
	return textOf(func(w *writer) {
		for node, r := range there.replicas {
			w.truth(r.alive)
			if r.alive {
				w.state(r.state)
			}
			if r.recovers() {
				w.numbers(p.sure[node])
			}
		}
		for client, c := range there.clients {
			w.look(c)
			w.numbers(p.told[client])
		}
		w.texts(there.packets())
		w.texts(p.asked)
		w.texts(p.leads)
		w.texts(p.replied)
		w.truth(j.Fault < 0)
		w.log(j.Sequence)
		w.numbers(p.least...)
	})
}

// packets: the texts of what is under way, in one order whatever the pool's is.
func (there *end) packets() []string {
	texts := make([]string, len(there.pool))
	for i, p := range there.pool {
		texts[i] = textOf(func(w *writer) {
			w.numbers(p.From, p.To)
			w.word(string(p.Bytes))
		})
	}
	slices.Sort(texts)
	return texts
}

func (w *writer) numbers(l ...int) {
	for _, number := range l {
		w.Int(number)
	}
}

func (w *writer) word(text string) { w.Text(text, math.MaxInt) }

func (w *writer) texts(l []string) {
	w.numbers(len(l))
	for _, text := range l {
		w.word(text)
	}
}

func (w *writer) truth(it bool) {
	if it {
		w.numbers(1)
	} else {
		w.numbers(0)
	}
}

func (w *writer) draw(d api.Draw) {
	w.Number(d.Hi)
	w.Number(d.Lo)
}

func (w *writer) op(o api.Op) {
	w.numbers(o.Kind, o.Slot)
	w.word(o.Value)
}

func (w *writer) result(r api.Result) {
	w.numbers(r.Code, r.Slot)
	w.word(r.Value)
}

func (w *writer) entry(e api.Entry) {
	w.numbers(e.Client, e.Number)
	w.op(e.Op)
}

func (w *writer) log(l []api.Entry) {
	w.numbers(len(l))
	for _, e := range l {
		w.entry(e)
	}
}

func (w *writer) look(c api.ClientLook) {
	w.numbers(c.Number, c.Seen, c.Queries)
	w.truth(c.Waits)
	w.truth(c.Asks)
	w.op(c.Op)
	w.op(c.Query)
	w.result(c.Result)
	w.result(c.Told)
}

// state: all of it but Self, which is told by its place.
func (w *writer) state(s api.State) {
	w.numbers(int(s.Status), s.View, s.Last, s.Commit, s.Idle)
	w.log(s.Log)
	for _, d := range s.Vector {
		w.draw(d)
	}
	w.numbers(len(s.Acks), len(s.Marks), len(s.Ballots), len(s.Answers))
	for _, a := range s.Acks {
		w.vote(a.Node, a.Draw, a.Place)
	}
	for _, m := range s.Marks {
		w.vote(m.Node, m.Draw)
	}
	for _, b := range s.Ballots {
		w.vote(b.Node, b.Draw, b.Last, b.Commit)
		w.log(b.Log)
	}
	for _, a := range s.Answers {
		w.vote(a.Node, a.Draw, a.View, a.Commit)
		w.log(a.Log)
	}
}

func (w *writer) vote(node int, d api.Draw, more ...int) {
	w.numbers(node)
	w.draw(d)
	w.numbers(more...)
}
