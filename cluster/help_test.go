package cluster_test

import (
	"bytes"
	"math"
	"math/rand/v2"
	"reflect"
	"slices"
	"testing"

	"amnesia/api"
	"amnesia/cluster"
	"amnesia/message"
)

// The chapter's group, and greater ones.
var (
	three = api.Config{F: 1, Room: 4, Patience: 6}
	five  = api.Config{F: 2, Room: 6, Patience: 9}
	seven = api.Config{F: 3, Room: 256, Patience: 100}
)

func configs() []api.Config {
	return []api.Config{three, five, seven, {F: 1, Room: 1, Patience: 7, Unguarded: true}, {F: 2, Room: 4, Patience: 6, Unguarded: true}}
}

// Configurations that may not be, each for one reason.
func wrongConfigs() []api.Config {
	return []api.Config{
		{}, {F: 0, Room: 6, Patience: 9}, {F: 4, Room: 6, Patience: 9}, {F: -1, Room: 6, Patience: 9},
		{F: 2, Room: 0, Patience: 9}, {F: 2, Room: 257, Patience: 9}, {F: 2, Room: -6, Patience: 9},
		{F: 2, Room: 6, Patience: 5}, {F: 2, Room: 6, Patience: 101}, {F: 2, Room: 6, Patience: -9, Unguarded: true},
		{F: math.MinInt, Room: 6, Patience: 9}, {F: math.MaxInt, Room: 6, Patience: 9},
		{F: 2, Room: math.MinInt, Patience: 9}, {F: 2, Room: math.MaxInt, Patience: 9},
		{F: 2, Room: 6, Patience: math.MinInt}, {F: 2, Room: 6, Patience: math.MaxInt},
	}
}

// farNumbers are no node, no client, no address of anything.
var farNumbers = []int{math.MinInt, math.MinInt + 1, -1 << 32, -2, -1, 23, 24, 1 << 32, 1<<32 + 1, math.MaxInt - 1, math.MaxInt}

// setupOf: a group with clients whose last requests have these numbers.
func setupOf(c api.Config, numbers ...int) api.Setup {
	s := api.Setup{Config: c}
	for _, n := range numbers {
		s.Clients = append(s.Clients, api.ClientSetup{Number: n})
	}
	return s
}

func lo(n uint64) api.Draw { return api.Draw{Lo: n} }

// A crash vector of those Lo halves.
func los(l ...uint64) api.Vector {
	var v api.Vector
	for _, n := range l {
		v = append(v, lo(n))
	}
	return v
}

func write(slot int, value string) api.Op {
	return api.Op{Kind: api.OpWrite, Slot: slot, Value: value}
}

func read(slot int) api.Op { return api.Op{Kind: api.OpRead, Slot: slot} }

var count = api.Op{Kind: api.OpCount}

func entry(client, number int, op api.Op) api.Entry {
	return api.Entry{Client: client, Number: number, Op: op}
}

// Operations that chapter 4 refuses.
func wrongOps() []api.Op {
	return []api.Op{
		{}, {Kind: 5}, {Kind: -1}, {Kind: math.MaxInt}, write(-1, ""), write(1024, "a"), write(0, string(make([]byte, 65))),
		{Kind: api.OpAppend, Slot: 1, Value: "a"}, {Kind: api.OpAppend, Value: string(make([]byte, 65))},
		read(-1), read(1024), {Kind: api.OpRead, Slot: 1, Value: "a"}, {Kind: api.OpCount, Slot: 1}, {Kind: api.OpCount, Value: "a"},
	}
}

// The events, by what each uses.

func submit(client int, op api.Op) api.Event {
	return api.Event{Kind: api.EventSubmit, Client: client, Op: op}
}

func retry(client int) api.Event { return api.Event{Kind: api.EventRetry, Client: client} }

func deliver(index, cut int) api.Event {
	return api.Event{Kind: api.EventDeliver, Index: index, Cut: cut}
}

func drop(index int) api.Event { return api.Event{Kind: api.EventDrop, Index: index} }

func copyOf(index int) api.Event { return api.Event{Kind: api.EventCopy, Index: index} }

func spoilt(index, at, count int) api.Event {
	return api.Event{Kind: api.EventSpoil, Index: index, At: at, Count: count}
}

func inject(node, at int, frame []byte) api.Event {
	return api.Event{Kind: api.EventInject, Node: node, At: at, Bytes: frame}
}

func tick(node, cut int) api.Event { return api.Event{Kind: api.EventTick, Node: node, Cut: cut} }

func crash(node int) api.Event { return api.Event{Kind: api.EventCrash, Node: node} }

func restart(node int, d api.Draw, cut int) api.Event {
	return api.Event{Kind: api.EventRestart, Node: node, Draw: d, Cut: cut}
}

func rounds(count int) api.Event { return api.Event{Kind: api.EventRound, Count: count} }

func query(client, node int, op api.Op) api.Event {
	return api.Event{Kind: api.EventQuery, Client: client, Node: node, Op: op}
}

func frame(t *testing.T, c api.Config, m api.Msg) []byte {
	t.Helper()
	b, e := message.Encode(c, m)
	if e != api.OK {
		t.Fatalf("the test's own message may not be: %d: %+v", e, m)
	}
	return b
}

func packet(t *testing.T, c api.Config, from, to int, m api.Msg) api.Packet {
	t.Helper()
	return api.Packet{From: from, To: to, Bytes: frame(t, c, m)}
}

// by: a message between replicas, by that one, in a group where nobody has begun again.
func by(c api.Config, node int, m api.Msg) api.Msg {
	m.Node, m.Vector = node, make(api.Vector, 2*c.F+1)
	return m
}

func made(t *testing.T, setup api.Setup) *cluster.Cluster {
	t.Helper()
	u, e := cluster.New(setup)
	if e != api.OK || u == nil {
		t.Fatalf("New: %v, %d", u, e)
	}
	return u
}

func samePacket(a, b api.Packet) bool {
	return a.From == b.From && a.To == b.To && bytes.Equal(a.Bytes, b.Bytes)
}

func sameRow(a, b api.Seen) bool {
	if !slices.Equal(a.Log, b.Log) || !samePacket(a.Packet, b.Packet) {
		return false
	}
	a.Log, b.Log, a.Packet, b.Packet = nil, nil, api.Packet{}, api.Packet{}
	return reflect.DeepEqual(a, b)
}

func sameRows(a, b []api.Seen) bool { return slices.EqualFunc(a, b, sameRow) }

func samePool(a, b []api.Packet) bool { return slices.EqualFunc(a, b, samePacket) }

// own: the state in memory of its own, with nil for empty lists.
func own(s api.State) api.State {
	s.Log, s.Vector = append([]api.Entry(nil), s.Log...), append(api.Vector(nil), s.Vector...)
	s.Acks, s.Marks = append([]api.Ack(nil), s.Acks...), append([]api.Mark(nil), s.Marks...)
	s.Ballots, s.Answers = append([]api.Ballot(nil), s.Ballots...), append([]api.Answer(nil), s.Answers...)
	for i := range s.Ballots {
		s.Ballots[i].Log = append([]api.Entry(nil), s.Ballots[i].Log...)
	}
	for i := range s.Answers {
		s.Answers[i].Log = append([]api.Entry(nil), s.Answers[i].Log...)
	}
	return s
}

func sameState(a, b api.State) bool { return reflect.DeepEqual(own(a), own(b)) }

// pair is a cluster, and beside it a model of what it must be. Each event is done to both; what is seen, and all that can be looked at behind it, must be the same.
type pair struct {
	t     *testing.T
	u     *cluster.Cluster
	model *model
}

func paired(t *testing.T, setup api.Setup, script ...api.Event) *pair {
	t.Helper()
	w := &pair{t: t, u: made(t, setup), model: newModel(t, setup)}
	w.look()
	w.do(script...)
	return w
}

// do: events that may be; all that is seen.
func (w *pair) do(script ...api.Event) []api.Seen {
	w.t.Helper()
	var all []api.Seen
	for _, e := range script {
		all = append(all, w.try(e, api.OK)...)
	}
	return all
}

// refuse: events that may not be.
func (w *pair) refuse(script ...api.Event) {
	w.t.Helper()
	for _, e := range script {
		w.try(e, api.ErrEvent)
	}
}

func (w *pair) try(e api.Event, want api.Errno) []api.Seen {
	w.t.Helper()
	rows, errno := w.model.do(e)
	if errno != want {
		w.t.Fatalf("the model: %d, want %d: %+v", errno, want, e)
	}
	got, errno := w.u.Do(e)
	if errno != want {
		w.t.Fatalf("%d, want %d: %+v", errno, want, e)
	}
	w.expectRows(e, got, rows)
	w.look()
	return got
}

func (w *pair) expectRows(e api.Event, got, want []api.Seen) {
	w.t.Helper()
	if !sameRows(got, want) {
		w.t.Fatalf("%+v:\nseen %v\nwant %v", e, told(w.model.setup.Config, got), told(w.model.setup.Config, want))
	}
}

// expect: an event, and what is seen of it, written out. (Event is the event's place.)
func (w *pair) expect(e api.Event, want ...api.Seen) {
	w.t.Helper()
	for i := range want {
		want[i].Event = w.u.Events()
	}
	w.expectRows(e, w.do(e), want)
}

// look: all that can be looked at is what the model has.
func (w *pair) look() {
	w.t.Helper()
	if got := w.u.Events(); got != w.model.events {
		w.t.Fatalf("%d events, want %d", got, w.model.events)
	}
	if got := w.u.Pool(); !samePool(got, w.model.pool) {
		w.t.Fatalf("pool %v, want %v", got, w.model.pool)
	}
	for node, r := range w.model.alive {
		got, on := w.u.Look(node)
		if on != (r != nil) || !sameState(got, r.State()) {
			w.t.Fatalf("%d: %v, %+v, want %+v", node, on, got, r.State())
		}
	}
	for client, want := range w.model.clients {
		if got, is := w.u.Client(client); !is || got != want {
			w.t.Fatalf("client %d: %v, %+v, want %+v", client, is, got, want)
		}
	}
}

// state: of a replica that is alive.
func (w *pair) state(node int) api.State {
	w.t.Helper()
	s, on := w.u.Look(node)
	if !on {
		w.t.Fatal(node, "is crashed")
	}
	return s
}

func (w *pair) client(client int) api.ClientLook {
	w.t.Helper()
	c, is := w.u.Client(client)
	if !is {
		w.t.Fatal("there is no client", client)
	}
	return c
}

// find: the place in the pool of the first packet to that address whose message is of that kind.
func (w *pair) find(to int, k api.Kind) int {
	w.t.Helper()
	for i, p := range w.u.Pool() {
		if m, e := message.Decode(w.model.setup.Config, p.Bytes); p.To == to && e == api.OK && m.Kind == k {
			return i
		}
	}
	w.t.Fatalf("nothing of kind %d is under way to %d", k, to)
	return -1
}

// give: the first packet to that address of that kind comes to it.
func (w *pair) give(to int, k api.Kind) []api.Seen {
	w.t.Helper()
	return w.do(deliver(w.find(to, k), 0))
}

// clear: all that is under way is lost.
func (w *pair) clear() {
	w.t.Helper()
	for len(w.u.Pool()) > 0 {
		w.do(drop(0))
	}
}

// told: rows to be read, with their messages.
func told(c api.Config, rows []api.Seen) []any {
	var l []any
	for _, row := range rows {
		l = append(l, row)
		if m, e := message.Decode(c, row.Packet.Bytes); e == api.OK {
			l = append(l, m)
		}
	}
	return l
}

func kindsOf(rows []api.Seen) []api.SeenKind {
	var l []api.SeenKind
	for _, row := range rows {
		l = append(l, row.Kind)
	}
	return l
}

func expectKinds(t *testing.T, rows []api.Seen, want ...api.SeenKind) {
	t.Helper()
	if !slices.Equal(kindsOf(rows), want) {
		t.Fatalf("%v, want %v: %+v", kindsOf(rows), want, rows)
	}
}

func seeded(seed uint64) *rand.Rand { return rand.New(rand.NewPCG(seed, 15)) }

func pick[T any](r *rand.Rand, l ...T) T { return l[r.IntN(len(l))] }
