package explore_test

import (
	"bytes"
	"math"
	"math/rand/v2"
	"reflect"
	"slices"
	"testing"

	"amnesia/api"
	"amnesia/cluster"
	"amnesia/explore"
	"amnesia/history"
	"amnesia/message"
)

const greatest = math.MaxInt

// The groups of most tests.
var (
	three  = api.Config{F: 1, Room: 4, Patience: 6}
	unsure = api.Config{F: 1, Room: 4, Patience: 6, Unguarded: true}
	five   = api.Config{F: 2, Room: 4, Patience: 6}
	seven  = api.Config{F: 3, Room: 4, Patience: 100}
)

// last is the draw that has no next one.
var last = api.Draw{Hi: math.MaxUint64, Lo: math.MaxUint64}

func lo(n uint64) api.Draw { return api.Draw{Lo: n} }

// setupOf: a group with clients whose last requests have these numbers.
func setupOf(c api.Config, numbers ...int) api.Setup {
	s := api.Setup{Config: c}
	for _, n := range numbers {
		s.Clients = append(s.Clients, api.ClientSetup{Number: n})
	}
	return s
}

func write(slot int, value string) api.Op {
	return api.Op{Kind: api.OpWrite, Slot: slot, Value: value}
}

func add(value string) api.Op { return api.Op{Kind: api.OpAppend, Value: value} }

func read(slot int) api.Op { return api.Op{Kind: api.OpRead, Slot: slot} }

var count = api.Op{Kind: api.OpCount}

func entry(client, number int, op api.Op) api.Entry {
	return api.Entry{Client: client, Number: number, Op: op}
}

// The events, by what each uses.

func submit(client int, op api.Op) api.Event {
	return api.Event{Kind: api.EventSubmit, Client: client, Op: op}
}

func query(client, node int, op api.Op) api.Event {
	return api.Event{Kind: api.EventQuery, Client: client, Node: node, Op: op}
}

func retry(client int) api.Event { return api.Event{Kind: api.EventRetry, Client: client} }

func deliver(index int) api.Event { return api.Event{Kind: api.EventDeliver, Index: index} }

func drop(index int) api.Event { return api.Event{Kind: api.EventDrop, Index: index} }

func twice(index int) api.Event { return api.Event{Kind: api.EventCopy, Index: index} }

func spoil(index, at, mask int) api.Event {
	return api.Event{Kind: api.EventSpoil, Index: index, At: at, Count: mask}
}

func inject(from, to int, b []byte) api.Event {
	return api.Event{Kind: api.EventInject, At: from, Node: to, Bytes: b}
}

func tick(node int) api.Event { return api.Event{Kind: api.EventTick, Node: node} }

func crash(node int) api.Event { return api.Event{Kind: api.EventCrash, Node: node} }

func restart(node int, d api.Draw) api.Event {
	return api.Event{Kind: api.EventRestart, Node: node, Draw: d}
}

// stillborn: a replica starts again, and is gone ahead of all that it would send.
func stillborn(node int, d api.Draw) api.Event {
	return api.Event{Kind: api.EventRestart, Node: node, Draw: d, Cut: 1}
}

func round(count int) api.Event { return api.Event{Kind: api.EventRound, Count: count} }

func scriptOf(parts ...[]api.Event) []api.Event { return slices.Concat(parts...) }

// repeated: an event so many times.
func repeated(times int, e api.Event) []api.Event { return slices.Repeat([]api.Event{e}, times) }

// each: that event of each of these replicas.
func each(of func(node int) api.Event, nodes ...int) []api.Event {
	var l []api.Event
	for _, node := range nodes {
		l = append(l, of(node))
	}
	return l
}

// moving: that event of the packet in each of these places.
func moving(of func(index int) api.Event, places ...int) []api.Event { return each(of, places...) }

// upTo: 0, 1, .. below n.
func upTo(n int) []int {
	l := make([]int, n)
	for i := range l {
		l[i] = i
	}
	return l
}

func sameEvent(a, b api.Event) bool {
	if !bytes.Equal(a.Bytes, b.Bytes) {
		return false
	}
	a.Bytes, b.Bytes = nil, nil
	return reflect.DeepEqual(a, b)
}

func sameEvents(a, b []api.Event) bool { return slices.EqualFunc(a, b, sameEvent) }

func sameFinding(a, b api.Finding) bool {
	if !sameEvents(a.Script, b.Script) {
		return false
	}
	a.Script, b.Script = nil, nil
	return reflect.DeepEqual(a, b)
}

func samePacket(a, b api.Packet) bool {
	return a.From == b.From && a.To == b.To && bytes.Equal(a.Bytes, b.Bytes)
}

// played: a cluster behind a script, and what was seen; each event must be one that may be.
func played(t *testing.T, s api.Setup, script []api.Event) (*cluster.Cluster, []api.Seen) {
	t.Helper()
	u, e := cluster.New(s)
	if e != api.OK {
		t.Fatalf("%+v: %d", s, e)
	}
	var rows []api.Seen
	for i, event := range script {
		seen, e := u.Do(event)
		if e != api.OK {
			t.Fatalf("event %d: %+v: %d", i, event, e)
		}
		rows = append(rows, seen...)
	}
	return u, rows
}

func judged(t *testing.T, s api.Setup, rows []api.Seen) api.Judgement {
	t.Helper()
	j, e := history.Judge(s, rows)
	if e != api.OK {
		t.Fatal(e)
	}
	return j
}

// faultOf: the first faulty row of a script; -1: there is none.
func faultOf(t *testing.T, s api.Setup, script []api.Event) int {
	t.Helper()
	_, rows := played(t, s, script)
	return judged(t, s, rows).Fault
}

func moves(t *testing.T, p api.Scope, script []api.Event) []api.Event {
	t.Helper()
	l, e := explore.Moves(p, script)
	if e != api.OK {
		t.Fatalf("%+v, %+v: Moves: %d", p, script, e)
	}
	return l
}

// expectMoves: these, one part behind the other.
func expectMoves(t *testing.T, p api.Scope, script []api.Event, want ...[]api.Event) {
	t.Helper()
	if l := moves(t, p, script); !sameEvents(l, slices.Concat(want...)) {
		t.Fatalf("behind %+v:\n%+v\nwant\n%+v", script, l, want)
	}
}

func expectNoMoves(t *testing.T, p api.Scope, script []api.Event, want api.Errno) {
	t.Helper()
	if l, e := explore.Moves(p, script); e != want || len(l) != 0 {
		t.Fatalf("%+v, %+v: Moves: %+v, %d, want %d", p, script, l, e, want)
	}
}

func searched(t *testing.T, p api.Scope, workers int) api.Finding {
	t.Helper()
	f, e := explore.Search(p, workers)
	if e != api.OK {
		t.Fatalf("%+v: Search by %d: %d", p, workers, e)
	}
	return f
}

// expectFinding: with one worker and with some.
func expectFinding(t *testing.T, p api.Scope, want api.Finding) {
	t.Helper()
	for _, workers := range []int{1, 3, api.MaxWorkers} {
		if f := searched(t, p, workers); !sameFinding(f, want) {
			t.Fatalf("%+v: Search by %d: %+v\nwant %+v", p, workers, f, want)
		}
	}
}

func expectNoFinding(t *testing.T, p api.Scope, workers int, want api.Errno) {
	t.Helper()
	if f, e := explore.Search(p, workers); e != want || !sameFinding(f, api.Finding{}) {
		t.Fatalf("%+v: Search by %d: %+v, %d, want %d", p, workers, f, e, want)
	}
}

// expectScope: the scope may be, or may not; both calls that are given one say so.
func expectScope(t *testing.T, p api.Scope, may bool) {
	t.Helper()
	want := api.OK
	if !may {
		want = api.ErrScope
		expectNoMoves(t, p, nil, want)
		expectNoFinding(t, p, 1, want)
		return
	}
	if _, e := explore.Moves(p, nil); e != want {
		t.Fatalf("%+v: Moves: %d", p, e)
	}
}

func alike(t *testing.T, s api.Setup, a, b []api.Event) bool {
	t.Helper()
	one, e := explore.Alike(s, a, b)
	other, f := explore.Alike(s, b, a)
	if e != api.OK || f != api.OK || one != other {
		t.Fatalf("%+v, %+v: Alike: %v, %d, and turned round %v, %d", a, b, one, e, other, f)
	}
	return one
}

// expectAlike: two scripts come to the same, and each to the same as itself; or they do not.
func expectAlike(t *testing.T, s api.Setup, a, b []api.Event, want bool) {
	t.Helper()
	if !alike(t, s, a, a) || !alike(t, s, b, b) {
		t.Fatal("a script is unlike itself")
	}
	if alike(t, s, a, b) != want {
		t.Fatalf("%+v\n%+v\nalike: %v", a, b, !want)
	}
}

// driver writes a script down along a cluster: by what a packet is, not by its place.
type driver struct {
	t      *testing.T
	u      *cluster.Cluster
	setup  api.Setup
	script []api.Event
	rows   []api.Seen
}

func driving(t *testing.T, s api.Setup, script ...api.Event) *driver {
	t.Helper()
	u, rows := played(t, s, script)
	return &driver{t: t, u: u, setup: s, script: slices.Clone(script), rows: rows}
}

func (d *driver) do(script ...api.Event) *driver {
	d.t.Helper()
	for _, e := range script {
		rows, errno := d.u.Do(e)
		if errno != api.OK {
			d.t.Fatalf("%+v: %d", e, errno)
		}
		d.script, d.rows = append(d.script, e), append(d.rows, rows...)
	}
	return d
}

// kindOf: the kind of a packet's message; 0, if it does not decode.
func kindOf(c api.Config, p api.Packet) api.Kind {
	m, e := message.Decode(c, p.Bytes)
	if e != api.OK {
		return 0
	}
	return m.Kind
}

// place: that of the first packet from there to there of that kind.
func (d *driver) place(from, to int, k api.Kind) int {
	d.t.Helper()
	at := slices.IndexFunc(d.u.Pool(), func(p api.Packet) bool {
		return p.From == from && p.To == to && kindOf(d.setup.Config, p) == k
	})
	if at < 0 {
		d.t.Fatalf("nothing of kind %d is under way from %d to %d", k, from, to)
	}
	return at
}

// gives: the first packet from there to there of that kind comes.
func (d *driver) gives(from, to int, k api.Kind) *driver {
	d.t.Helper()
	return d.do(deliver(d.place(from, to, k)))
}

// drops: it is lost.
func (d *driver) drops(from, to int, k api.Kind) *driver {
	d.t.Helper()
	return d.do(drop(d.place(from, to, k)))
}

// clears: all that is under way is lost.
func (d *driver) clears() *driver {
	d.t.Helper()
	for range d.u.Pool() {
		d.do(drop(0))
	}
	return d
}

// ends: all replicas crash, and all that is under way is lost.
func (d *driver) ends() *driver {
	d.t.Helper()
	for node := range 2*d.setup.Config.F + 1 {
		d.do(crash(node))
	}
	return d.clears()
}

// commits: the request of a client, the last one, is carried out by the primary 0 of view 0, with the help of that backup.
func (d *driver) commits(client, backup int) *driver {
	d.t.Helper()
	return d.gives(api.MaxNodes+client, 0, api.KindRequest).gives(0, backup, api.KindPrepare).gives(backup, 0, api.KindPrepareOK)
}

// suspects: a replica's patience comes to its end.
func (d *driver) suspects(node int) *driver {
	d.t.Helper()
	return d.do(repeated(d.setup.Config.Patience, tick(node))...)
}

// lies: a replica that is up takes over a forged log of a later view, and carries out what nobody asked for: a fault.
func (d *driver) lies(node int) *driver {
	d.t.Helper()
	c := d.setup.Config
	var log []api.Entry // a full one, so that it goes beyond all that was carried out
	for number := range c.Room {
		log = append(log, entry(5, 1+number, add("lie")))
	}
	b := frame(d.t, c, api.Msg{Kind: api.KindStartView, Node: 1, View: 10*c.F + 6, Log: log, Commit: len(log), Vector: make(api.Vector, 2*c.F+1)})
	d.do(inject(1, node, b))
	d.do(deliver(len(d.u.Pool()) - 1))
	if d.fault() < 0 {
		d.t.Fatal("it was not believed")
	}
	return d
}

func (d *driver) fault() int {
	d.t.Helper()
	return judged(d.t, d.setup, d.rows).Fault
}

// forged: a StartView of view 1, by node 1, whose log has entries that nobody asked for: a replica that takes it over carries them out.
func forged(t *testing.T, c api.Config, log ...api.Entry) []byte {
	t.Helper()
	return frame(t, c, api.Msg{Kind: api.KindStartView, Node: 1, View: 1, Log: log, Commit: len(log), Vector: make(api.Vector, 2*c.F+1)})
}

func frame(t *testing.T, c api.Config, m api.Msg) []byte {
	t.Helper()
	b, e := message.Encode(c, m)
	if e != api.OK {
		t.Fatalf("the test's own message may not be: %d: %+v", e, m)
	}
	return b
}

func seeded(seed uint64) *rand.Rand { return rand.New(rand.NewPCG(seed, 24)) }

func pick[T any](r *rand.Rand, l ...T) T { return l[r.IntN(len(l))] }

// expectEnough: what was met in all runs of a test is not too little.
func expectEnough[K comparable](t *testing.T, met, least map[K]int) {
	t.Helper()
	for what, n := range least {
		if met[what] < n {
			t.Error("too few:", what, met)
		}
	}
}
