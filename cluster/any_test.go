package cluster_test

import (
	"math"
	"testing"

	"amnesia/api"
	"amnesia/cluster"
	"amnesia/message"
)

// P15.1 and P15.3: any scripts, held against the model event by event; and what they come to is not too little.
func TestAnyScripts(t *testing.T) {
	t.Parallel()
	met := make(map[api.SeenKind]int)
	refused, cuts := 0, 0
	for seed := range uint64(400) {
		r := seeded(seed)
		setup := someSetup(r)
		w := paired(t, setup)
		for range 150 {
			e := someEvent(t, r, setup, w.u)
			want := api.OK
			if w.model.refuses(e) {
				want = api.ErrEvent
				refused++
			}
			rows := w.try(e, want)
			for _, row := range rows {
				met[row.Kind]++
			}
			if e.Cut > 0 && len(rows) > 0 && rows[len(rows)-1].Kind == api.SeenDown {
				cuts++
			}
		}
	}
	for k := api.SeenAsked; k <= api.SeenTold; k++ {
		if met[k] < 100 {
			t.Error("too few:", k, met)
		}
	}
	if refused < 500 || cuts < 200 {
		t.Error("too few:", refused, cuts)
	}
}

// P15.2: the same script twice, by Do and by Run, is seen the same; so it is when another cluster is played between its events.
func TestTheSameScriptTwice(t *testing.T) {
	t.Parallel()
	for seed := range uint64(60) {
		r := seeded(1000 + seed)
		setup := someSetup(r)
		other := someSetup(r)
		one, beside := made(t, setup), made(t, other)
		var script []api.Event
		var seen []api.Seen
		for range 150 {
			e := someEvent(t, r, setup, one)
			rows, errno := one.Do(e)
			if errno == api.OK {
				script = append(script, e)
				seen = append(seen, rows...)
			}
			beside.Do(someEvent(t, r, other, beside))
		}
		two := made(t, setup)
		var again []api.Seen
		for _, e := range script {
			rows, errno := two.Do(e)
			if errno != api.OK {
				t.Fatal(errno, e)
			}
			again = append(again, rows...)
		}
		whole, at, errno := cluster.Run(setup, script)
		if !sameRows(seen, again) || !sameRows(seen, whole) || at != len(script) || errno != api.OK {
			t.Fatal("another run", at, errno)
		}
		expectSameLooks(t, setup, one, two)
	}
}

func expectSameLooks(t *testing.T, setup api.Setup, a, b *cluster.Cluster) {
	t.Helper()
	if a.Events() != b.Events() {
		t.Fatal(a.Events(), b.Events())
	}
	expectSamePlain(t, setup, a, b)
}

// expectSamePlain: replicas, clients and pool, behind however many events.
func expectSamePlain(t *testing.T, setup api.Setup, a, b *cluster.Cluster) {
	t.Helper()
	if !samePool(a.Pool(), b.Pool()) {
		t.Fatal(a.Pool(), b.Pool())
	}
	for node := range 2*setup.Config.F + 1 {
		s, on := a.Look(node)
		if o, other := b.Look(node); on != other || !sameState(s, o) {
			t.Fatal(node, s, o)
		}
	}
	for client := range setup.Clients {
		l, _ := a.Client(client)
		if o, _ := b.Client(client); l != o {
			t.Fatal(client, l, o)
		}
	}
}

// fields: how each field of an event is made wild, and which kinds use it.
type field struct {
	users []api.EventKind
	wild  func(*api.Event, int)
}

func fields() map[string]field {
	return map[string]field{
		"node":   {[]api.EventKind{api.EventInject, api.EventTick, api.EventCrash, api.EventRestart, api.EventQuery}, func(e *api.Event, k int) { e.Node = k }},
		"client": {[]api.EventKind{api.EventSubmit, api.EventRetry, api.EventQuery}, func(e *api.Event, k int) { e.Client = k }},
		"index":  {[]api.EventKind{api.EventDeliver, api.EventDrop, api.EventCopy, api.EventSpoil}, func(e *api.Event, k int) { e.Index = k }},
		"at":     {[]api.EventKind{api.EventSpoil, api.EventInject}, func(e *api.Event, k int) { e.At = k }},
		"count":  {[]api.EventKind{api.EventSpoil, api.EventRound}, func(e *api.Event, k int) { e.Count = k }},
		"cut":    {[]api.EventKind{api.EventDeliver, api.EventTick, api.EventRestart}, func(e *api.Event, k int) { e.Cut = k }},
		"draw":   {[]api.EventKind{api.EventRestart}, func(e *api.Event, k int) { e.Draw = api.Draw{Hi: uint64(k), Lo: uint64(k)} }},
		"op":     {[]api.EventKind{api.EventSubmit, api.EventQuery}, func(e *api.Event, k int) { e.Op = api.Op{Kind: k, Slot: k, Value: string(make([]byte, 100))} }},
		"bytes":  {[]api.EventKind{api.EventInject}, func(e *api.Event, k int) { e.Bytes = make([]byte, 40000) }},
	}
}

// What a kind does not use is not looked at.
func TestUnusedFields(t *testing.T) {
	events := []api.Event{submit(0, write(7, "b")), retry(0), deliver(1, 0), drop(1), copyOf(1), spoilt(1, 3, 9), inject(1, 7, []byte("x")), tick(0, 0), crash(1), restart(2, lo(5), 0), rounds(1), query(0, 1, read(7))}
	for _, e := range events {
		for what, f := range fields() {
			uses := false
			for _, k := range f.users {
				uses = uses || k == e.Kind
			}
			for _, k := range []int{math.MinInt, -1, 0, 1, 3, 300, math.MaxInt} {
				if uses {
					continue
				}
				odd := e
				f.wild(&odd, k)
				one := paired(t, setupOf(three, 0), crash(2), submit(0, write(7, "a")))
				two := paired(t, setupOf(three, 0), crash(2), submit(0, write(7, "a")))
				if a, b := one.do(e), two.do(odd); !sameRows(a, b) {
					t.Fatalf("%s: %+v: %v, %v", what, odd, a, b)
				}
				expectSameLooks(t, one.model.setup, one.u, two.u)
			}
		}
	}
}

func TestKindsThatThereAreNot(t *testing.T) {
	w := paired(t, setupOf(three, 0), submit(0, count))
	for _, k := range append([]int{0, 13, 14, 127, 128, 256, 1 << 31}, farNumbers...) {
		w.refuse(api.Event{Kind: api.EventKind(k), Count: 1, Draw: lo(1), Op: count})
	}
}

// P15.3 and P1: what may not be changes nothing, and does not count, wherever it comes.
func TestRefusedEventsLeaveNoTrace(t *testing.T) {
	refused := make(map[api.EventKind]int)
	for seed := range uint64(40) {
		r := seeded(2000 + seed)
		setup := someSetup(r)
		quiet, loud := made(t, setup), made(t, setup)
		for range 100 {
			for range 5 {
				wild := wildEvent(r)
				if newModelOf(setup, quiet).refuses(wild) {
					if rows, e := loud.Do(wild); len(rows) != 0 || e != api.ErrEvent {
						t.Fatal(wild, rows, e)
					}
					refused[wild.Kind]++
				}
			}
			e := someEvent(t, r, setup, quiet)
			a, errno := quiet.Do(e)
			b, other := loud.Do(e)
			if errno != other || !sameRows(a, b) {
				t.Fatal(e, errno, other, a, b)
			}
		}
		expectSameLooks(t, setup, quiet, loud)
	}
	for k := api.EventSubmit; k <= api.EventQuery; k++ {
		if refused[k] < 20 {
			t.Error("too few:", k, refused)
		}
	}
}

// newModelOf: a model with the clients as they are, good for asking what it refuses.
func newModelOf(setup api.Setup, u *cluster.Cluster) *model {
	m := &model{setup: setup}
	for client := range setup.Clients {
		l, _ := u.Client(client)
		m.clients = append(m.clients, l)
	}
	return m
}

// Whatever comes, what is under way and what is seen keeps its form: rows have the fields of their kind alone, and packets are to addresses.
func TestFormOfRows(t *testing.T) {
	for seed := range uint64(60) {
		r := seeded(3000 + seed)
		setup := someSetup(r)
		u := made(t, setup)
		for range 150 {
			place := u.Events()
			rows, _ := u.Do(someEvent(t, r, setup, u))
			for _, row := range rows {
				expectForm(t, setup, place, row)
			}
		}
		for _, p := range u.Pool() {
			if p.To < 0 || p.To >= 2*setup.Config.F+1 && p.To < 7 || p.To >= 7+len(setup.Clients) {
				t.Fatal(p)
			}
		}
	}
}

// expectForm: a row without the fields of its kind is empty.
func expectForm(t *testing.T, setup api.Setup, place int, row api.Seen) {
	t.Helper()
	if row.Event != place {
		t.Fatal(place, row)
	}
	rest := row
	rest.Kind, rest.Event = 0, 0
	switch row.Kind {
	case api.SeenAsked:
		rest.Entry = api.Entry{}
	case api.SeenSent:
		if m, e := message.Decode(setup.Config, row.Packet.Bytes); e != api.OK || row.Packet.From < 7 && m.Node != row.Packet.From {
			t.Fatal(row)
		}
		rest.Packet = api.Packet{}
	case api.SeenTaken:
		rest.Packet = api.Packet{}
	case api.SeenDone:
		rest.Node, rest.View, rest.Place, rest.Entry = 0, 0, 0, api.Entry{}
	case api.SeenLead, api.SeenBack:
		rest.Node, rest.View, rest.Log = 0, 0, nil
	case api.SeenReply:
		rest.Entry.Client, rest.Entry.Number, rest.Result = 0, 0, api.Result{}
	case api.SeenDown:
		rest.Node = 0
	case api.SeenUp:
		rest.Node, rest.Draw = 0, api.Draw{}
	case api.SeenTold:
		rest.Node, rest.Place, rest.Entry, rest.Result = 0, 0, api.Entry{}, api.Result{}
	}
	if !sameRow(rest, api.Seen{}) {
		t.Fatalf("%+v", row)
	}
}
