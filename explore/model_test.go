package explore_test

import (
	"math/big"
	"reflect"
	"slices"
	"testing"

	"amnesia/api"
	"amnesia/cluster"
	"amnesia/explore"
	"amnesia/history"
)

// The model of this layer: who is gone, recovers and waits is taken from the rows that are seen; lists in whatever order are held against each other by taking one thing after the other out of them; draws are big numbers; and a script is held against all that were gone on from, one by one.

// modelEnd is what there is behind a script.
type modelEnd struct {
	setup          api.Setup
	before, script []api.Event
	rows           []api.Seen
	states         map[int]api.State // of those that are alive
	gone, recovers map[int]bool
	waits          map[int]bool
	made           map[int]int // by client: its Number
	looks          []api.ClientLook
	pool           []api.Packet
	sequence       []api.Entry
	fault          int
	known          modelKnown
}

// modelKnown is what is asked of an end again and again.
type modelKnown struct {
	asked, leads, replied []api.Seen
	least                 []int
	sure, told            map[int]int
	used                  [5]int
	drawn                 [7]string
}

func modelRun(s api.Setup, before, script []api.Event) (*modelEnd, bool) {
	m := &modelEnd{setup: s, before: before, script: script, states: make(map[int]api.State), gone: make(map[int]bool), recovers: make(map[int]bool), waits: make(map[int]bool), made: make(map[int]int)}
	u, e := cluster.New(s)
	if e != api.OK {
		return nil, false
	}
	for _, event := range scriptOf(before, script) {
		rows, e := u.Do(event)
		if e != api.OK {
			return nil, false
		}
		m.rows = append(m.rows, rows...)
	}
	for client, c := range s.Clients {
		m.made[client] = c.Number
		look, _ := u.Client(client)
		m.looks = append(m.looks, look)
	}
	for _, row := range m.rows {
		m.sees(row)
	}
	for node := range 2*s.Config.F + 1 {
		if look, is := u.Look(node); is {
			m.states[node] = modelState(look)
		}
	}
	m.pool = u.Pool()
	j, _ := history.Judge(s, m.rows)
	m.sequence, m.fault = j.Sequence, j.Fault
	m.known = modelKnown{asked: m.asked(), leads: m.leads(), replied: m.replied(), least: m.least(), sure: m.sure(), told: m.told()}
	for i, k := range []api.EventKind{api.EventSubmit, api.EventTick, api.EventDrop, api.EventCopy, api.EventCrash} {
		m.known.used[i] = m.used(k)
	}
	for node := range m.nodes() {
		m.known.drawn[node] = m.drawn(node).String()
	}
	return m, true
}

func (m *modelEnd) sees(row api.Seen) {
	switch row.Kind {
	case api.SeenDown:
		m.gone[row.Node], m.recovers[row.Node] = true, false
	case api.SeenUp:
		m.gone[row.Node], m.recovers[row.Node] = false, true
	case api.SeenBack:
		m.recovers[row.Node] = false
	case api.SeenAsked:
		m.waits[row.Entry.Client], m.made[row.Entry.Client] = true, row.Entry.Number
	case api.SeenReply:
		m.waits[row.Entry.Client] = false
	}
}

// modelState: with nil for all lists that are empty.
func modelState(s api.State) api.State {
	s.Log, s.Vector = append([]api.Entry(nil), s.Log...), append(api.Vector(nil), s.Vector...)
	s.Acks, s.Marks = append([]api.Ack(nil), s.Acks...), append([]api.Mark(nil), s.Marks...)
	s.Ballots, s.Answers = append([]api.Ballot(nil), s.Ballots...), append([]api.Answer(nil), s.Answers...)
	for i := range s.Ballots {
		s.Ballots[i].Log = append([]api.Entry(nil), s.Ballots[i].Log...)
	}
	for i := range s.Answers {
		s.Answers[i].Log = append([]api.Entry(nil), s.Answers[i].Log...)
	}
	return s
}

func (m *modelEnd) nodes() int { return 2*m.setup.Config.F + 1 }

// used: how many events of that kind the script has; Before's are none of them.
func (m *modelEnd) used(k api.EventKind) int {
	n := 0
	for _, e := range m.script {
		if e.Kind == k {
			n++
		}
	}
	return n
}

func bigOf(d api.Draw) *big.Int {
	x := new(big.Int).SetUint64(d.Hi)
	return x.Lsh(x, 64).Or(x, new(big.Int).SetUint64(d.Lo))
}

// drawn: the greatest draw of a replica so far, as a number.
func (m *modelEnd) drawn(node int) *big.Int {
	most := new(big.Int)
	for _, e := range scriptOf(m.before, m.script) {
		if d := bigOf(e.Draw); e.Kind == api.EventRestart && e.Node == node && d.Cmp(most) > 0 {
			most = d
		}
	}
	return most
}

func (m *modelEnd) moves(p api.Scope) []api.Event {
	var l []api.Event
	if len(m.script) == p.Depth {
		return nil
	}
	if j := m.used(api.EventSubmit); j < len(p.Ops) && len(m.looks) > 0 {
		client := j % len(m.looks)
		if !m.waits[client] && m.made[client] < greatest {
			l = append(l, submit(client, p.Ops[j]))
		}
	}
	for _, of := range []struct {
		kind api.EventKind
		most int
	}{{api.EventDeliver, greatest}, {api.EventDrop, p.Drops}, {api.EventCopy, p.Copies}} {
		for i, q := range m.pool {
			isFirst := slices.IndexFunc(m.pool, func(other api.Packet) bool { return samePacket(other, q) }) == i
			if isFirst && m.used(of.kind) < of.most {
				l = append(l, api.Event{Kind: of.kind, Index: i})
			}
		}
	}
	for node := range m.nodes() {
		if !m.gone[node] && m.used(api.EventTick) < p.Ticks {
			l = append(l, tick(node))
		}
	}
	for node := range m.nodes() {
		away := 0
		for other := range m.nodes() {
			if m.gone[other] || m.recovers[other] || other == node {
				away++
			}
		}
		if !m.gone[node] && m.used(api.EventCrash) < p.Crashes && away <= m.setup.Config.F {
			l = append(l, crash(node))
		}
	}
	for node := range m.nodes() {
		next := m.drawn(node)
		next.Add(next, big.NewInt(1))
		if m.gone[node] && next.BitLen() <= 128 {
			hi := new(big.Int).Rsh(next, 64)
			low := new(big.Int).Sub(next, new(big.Int).Lsh(hi, 64))
			l = append(l, restart(node, api.Draw{Hi: hi.Uint64(), Lo: low.Uint64()}))
		}
	}
	return l
}

// of: the rows of a kind, each with what is asked of it alone.
func (m *modelEnd) of(k api.SeenKind, asks func(api.Seen) api.Seen) []api.Seen {
	var l []api.Seen
	for _, row := range m.rows {
		if row.Kind == k {
			l = append(l, asks(row))
		}
	}
	return l
}

func (m *modelEnd) asked() []api.Seen {
	return m.of(api.SeenAsked, func(row api.Seen) api.Seen { return api.Seen{Entry: row.Entry} })
}

func (m *modelEnd) leads() []api.Seen {
	return m.of(api.SeenLead, func(row api.Seen) api.Seen {
		return api.Seen{View: row.View, Log: append([]api.Entry(nil), row.Log...)}
	})
}

func (m *modelEnd) replied() []api.Seen {
	return m.of(api.SeenReply, func(row api.Seen) api.Seen {
		return api.Seen{Entry: entry(row.Entry.Client, row.Entry.Number, api.Op{})}
	})
}

// least: of each place of the sequence.
func (m *modelEnd) least() []int {
	var l []int
	for i := range m.sequence {
		least := greatest
		for _, row := range m.rows {
			if row.Kind == api.SeenDone && row.Place == i+1 {
				least = min(least, row.View)
			}
		}
		l = append(l, least)
	}
	return l
}

// sure: by node that recovers: how long the sequence of all that came ahead of its last start is.
func (m *modelEnd) sure() map[int]int {
	l := make(map[int]int)
	for i, row := range m.rows {
		if row.Kind == api.SeenUp && m.recovers[row.Node] {
			j, _ := history.Judge(m.setup, m.rows[:i])
			l[row.Node] = len(j.Sequence)
		}
	}
	return l
}

func (m *modelEnd) told() map[int]int {
	l := make(map[int]int)
	for _, row := range m.rows {
		if row.Kind == api.SeenTold {
			l[row.Entry.Client] = max(l[row.Entry.Client], row.Place)
		}
	}
	return l
}

// sameHeap: the same things, each as often, in whatever order.
func sameHeap[T any](a, b []T) bool {
	left := slices.Clone(b)
	for _, x := range a {
		at := slices.IndexFunc(left, func(y T) bool { return reflect.DeepEqual(x, y) })
		if at < 0 {
			return false
		}
		left = slices.Delete(left, at, at+1)
	}
	return len(left) == 0
}

func (m *modelEnd) isAlike(o *modelEnd) bool {
	a, b := &m.known, &o.known
	return len(m.pool) == len(o.pool) && slices.Equal(m.sequence, o.sequence) && m.fault < 0 == (o.fault < 0) &&
		slices.Equal(m.looks, o.looks) && slices.Equal(a.least, b.least) && reflect.DeepEqual(m.states, o.states) &&
		sameHeap(a.asked, b.asked) && sameHeap(a.leads, b.leads) && sameHeap(a.replied, b.replied) &&
		reflect.DeepEqual(a.sure, b.sure) && reflect.DeepEqual(a.told, b.told) && sameHeap(m.pool, o.pool)
}

// asMuch: have two scripts used up the same, and come as far with their draws?
func (m *modelEnd) asMuch(o *modelEnd) bool {
	return m.known.used == o.known.used && m.known.drawn == o.known.drawn
}

func modelScope(p api.Scope) bool {
	for _, n := range []int{p.Depth, p.Ticks, p.Drops, p.Copies, p.Crashes} {
		if n < 0 || n > 12 {
			return false
		}
	}
	for _, op := range p.Ops {
		if _, results, e := replayed(op); e != api.OK || results.Code == 0 {
			return false
		}
	}
	_, _, e := cluster.Run(p.Setup, p.Before)
	return e == api.OK && len(p.Ops) <= 12 && len(p.Before) <= 4084
}

// modelHeap is what two alike ends have alike at the least: it spares to hold all against all.
type modelHeap struct {
	used          [5]int
	packets, down int
	idle, commits int
}

func (m *modelEnd) heap() modelHeap {
	h := modelHeap{used: m.known.used, packets: len(m.pool), down: m.nodes() - len(m.states)}
	for node, s := range m.states {
		h.idle += (node + 1) * s.Idle
		h.commits += (node + 1) * s.Commit
	}
	return h
}

// modelled is what the model's search comes to.
type modelled struct {
	api.Finding
	goneOn []*modelEnd
	letGo  [][2]*modelEnd // each with the one that was gone on from in its place
	within bool           // false: there are more states than the model looks at
}

// modelSearch: with the most states that it looks at.
func modelSearch(p api.Scope, most int) modelled {
	f := modelled{within: true}
	heaps := make(map[modelHeap][]*modelEnd)
	waiting := [][]api.Event{nil}
	for len(waiting) > 0 {
		script := waiting[0]
		waiting = waiting[1:]
		m, _ := modelRun(p.Setup, p.Before, script)
		f.Scripts++
		if m.fault >= 0 {
			f.Found, f.Script, f.Row = true, scriptOf(p.Before, script), m.fault
			return f
		}
		heap := m.heap()
		at := slices.IndexFunc(heaps[heap], func(o *modelEnd) bool { return m.asMuch(o) && m.isAlike(o) })
		if at >= 0 {
			f.letGo = append(f.letGo, [2]*modelEnd{m, heaps[heap][at]})
			continue
		}
		if len(f.goneOn) == most {
			f.within = false
			return f
		}
		f.goneOn, heaps[heap] = append(f.goneOn, m), append(heaps[heap], m)
		f.States, f.Deepest = f.States+1, len(script)
		for _, e := range m.moves(p) {
			waiting = append(waiting, scriptOf(script, []api.Event{e}))
		}
	}
	return f
}

// expectModelMoves: what may come next is what the model says, or the same error.
func expectModelMoves(t *testing.T, p api.Scope, script []api.Event) []api.Event {
	t.Helper()
	if !modelScope(p) {
		expectNoMoves(t, p, script, api.ErrScope)
		return nil
	}
	m, plays := modelRun(p.Setup, p.Before, script)
	if !plays || len(script) > p.Depth {
		expectNoMoves(t, p, script, api.ErrArg)
		return nil
	}
	want := m.moves(p)
	expectMoves(t, p, script, want)
	return want
}

// Any scopes, and scripts of moves and of anything else.
func TestModelMoves(t *testing.T) {
	t.Parallel()
	met := make(map[string]int)
	for k := range uint64(400) {
		r := seeded(1000 + k)
		p := someScope(r)
		p.Depth = 12
		script := someWalk(t, r, p, r.IntN(13))
		for n := range len(script) + 1 {
			for _, e := range expectModelMoves(t, p, script[:n]) {
				met[kindName(e.Kind)]++
			}
		}
		if len(script) == 12 {
			met["to the depth"]++
		}
		p.Depth = r.IntN(12)
		expectModelMoves(t, p, script)
		strange := scriptOf(script[:r.IntN(len(script)+1)], someEvents(r, p.Setup, 1+r.IntN(4)))
		expectModelMoves(t, p, strange)
		p.Depth = 12
		expectModelMoves(t, p, strange)
		expectModelMoves(t, spoiltScope(r, p), script)
	}
	expectEnough(t, met, map[string]int{"submit": 200, "deliver": 4000, "drop": 1000, "copy": 1000, "tick": 2000, "crash": 500, "restart": 500, "to the depth": 10})
}

// Pairs of scripts: of one scope, one the other's events in another order, and any.
func TestModelAlike(t *testing.T) {
	t.Parallel()
	met := make(map[string]int)
	for k := range uint64(1500) {
		r := seeded(3000 + k)
		p := someScope(r)
		p.Depth = 12
		a := someWalk(t, r, p, r.IntN(8))
		b := someWalk(t, r, p, len(a))
		switch r.IntN(6) {
		case 0:
			b = turnedOver(r, a)
		case 1:
			b = scriptOf(a, b[:min(1, len(b))])
		case 2:
			b = someEvents(r, p.Setup, r.IntN(6))
		case 3, 4:
			a, b = scriptOf(a, b), scriptOf(b, a)
		}
		a, b = scriptOf(p.Before, a), scriptOf(p.Before, b)
		one, plays := modelRun(p.Setup, nil, a)
		other, isPlayed := modelRun(p.Setup, nil, b)
		if !plays || !isPlayed {
			met["refused"]++
			if is, e := explore.Alike(p.Setup, a, b); is || e != api.ErrScope {
				t.Fatal(k, is, e)
			}
			continue
		}
		want := one.isAlike(other)
		expectAlike(t, p.Setup, a, b, want)
		switch {
		case want && sameEvents(a, b):
			met["itself"]++
		case want && one.fault >= 0:
			met["alike with a fault"]++
		case want:
			met["alike"]++
		default:
			met["unlike"]++
		}
	}
	expectEnough(t, met, map[string]int{"refused": 5, "alike": 100, "alike with a fault": 5, "unlike": 400})
}

// Small scopes: how many scripts and states there are, how deep it goes, and what is found.
func TestModelSearch(t *testing.T) {
	t.Parallel()
	met := make(map[string]int)
	for k := range uint64(240) {
		r := seeded(6000 + k)
		p := someScope(r)
		p.Depth = pick(r, 0, 1, 2, 2, 3, 3, 4, 5)
		want := modelSearch(p, 120)
		for !want.within {
			p.Depth--
			want = modelSearch(p, 120)
		}
		expectFinding(t, p, want.Finding)
		switch {
		case want.Found && want.States > 0:
			met["found"]++
		case want.Found:
			met["found in Before"]++
		case want.States < want.Scripts:
			met["let go"]++
		}
		met["deep"] += want.Deepest / 3
	}
	expectEnough(t, met, map[string]int{"found": 10, "found in Before": 3, "let go": 60, "deep": 40})
}

// Few moves, but to the greatest depth.
func TestModelDeep(t *testing.T) {
	t.Parallel()
	for _, p := range []api.Scope{
		{Depth: 12, Setup: setupOf(three, 0, 0), Ops: []api.Op{opA}},
		{Depth: 10, Setup: setupOf(unsure), Crashes: 2},
		{Depth: 6, Setup: setupOf(three, 0), Ops: []api.Op{opA, count}, Drops: 3},
		{Depth: 5, Setup: setupOf(three, 0), Ops: []api.Op{opA}, Crashes: 1, Ticks: 1},
		{Depth: 9, Setup: setupOf(three), Before: repeated(5, tick(1)), Ticks: 1},
	} {
		want := modelSearch(p, 2000)
		if !want.within || want.Found || want.Deepest != p.Depth {
			t.Fatal(p, want.Finding)
		}
		expectFinding(t, p, want.Finding)
	}
}
