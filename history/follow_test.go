package history_test

import (
	"math/rand/v2"
	"slices"
	"testing"

	"amnesia/api"
	"amnesia/history"
	"amnesia/ledger"
)

// P16.5 to P16.9, of any rows. (runs_test.go asks them of what a cluster shows.)

func judgedOf(t *testing.T, s api.Setup, rows []api.Seen) api.Judgement {
	t.Helper()
	j, e := history.Judge(s, rows)
	if e != api.OK {
		t.Fatal(e)
	}
	return j
}

// expectStays: P16.5, of the rows cut behind each row.
func expectStays(t *testing.T, s api.Setup, rows []api.Seen) {
	t.Helper()
	all := judgedOf(t, s, rows)
	premises, _ := history.Premises(s.Config, rows)
	upTo := func(row, cut int) int { // what of a number is told by so many rows
		if row >= cut {
			return -1
		}
		return row
	}
	for cut := range len(rows) + 1 {
		j := judgedOf(t, s, rows[:cut])
		if j.Fault != upTo(all.Fault, cut) || len(j.Sequence) > len(all.Sequence) || !slices.Equal(j.Sequence, all.Sequence[:len(j.Sequence)]) {
			t.Fatalf("cut at %d: %+v of %+v", cut, j, all)
		}
		if all.Fault >= 0 && cut >= all.Fault && !slices.Equal(j.Sequence, all.Sequence) {
			t.Fatalf("cut at %d, behind the fault: %+v of %+v", cut, j, all)
		}
		expectPremises(t, s.Config, rows[:cut], premise(upTo(premises.Few, cut), upTo(premises.Fresh, cut), upTo(premises.Genuine, cut)))
	}
}

func TestWhatHasComeStays(t *testing.T) {
	t.Parallel()
	for seed := range uint64(300) {
		r := seeded(20000 + seed)
		s, rows := someRows(t, r, 1+r.IntN(60), r.IntN(3) == 0)
		expectStays(t, s, rows)
	}
}

// expectOneSequence: P16.6 and P16.9, of rows whatever they are.
func expectOneSequence(t *testing.T, s api.Setup, rows []api.Seen) {
	t.Helper()
	j := judgedOf(t, s, rows)
	for i, e := range j.Sequence {
		if !slices.ContainsFunc(rows, func(row api.Seen) bool { return row.Kind == api.SeenAsked && row.Entry == e }) {
			t.Fatal("not asked:", e)
		}
		if placeOf(j.Sequence, e.Client, e.Number) != i+1 {
			t.Fatal("twice:", e)
		}
	}
	if j.Fault >= 0 {
		return
	}
	_, results := ledger.Replay(opsOf(j.Sequence))
	seen := make(map[int]int) // by client
	for _, row := range rows {
		client := row.Entry.Client
		switch row.Kind {
		case api.SeenDone:
			if !hasAt(j.Sequence, row.Place, row.Entry) {
				t.Fatal("parted:", row)
			}
		case api.SeenReply:
			place := placeOf(j.Sequence, client, row.Entry.Number)
			if place == 0 || results[place-1] != row.Result {
				t.Fatal("another answer:", row)
			}
			seen[client] = max(seen[client], place)
		case api.SeenTold:
			if row.Place < seen[client] || row.Place > len(j.Sequence) || readingAt(j.Sequence, row.Place, row.Entry.Op) != row.Result {
				t.Fatal("another reading:", row)
			}
			seen[client] = row.Place
		}
	}
}

func TestOneSequence(t *testing.T) {
	t.Parallel()
	for seed := range uint64(300) {
		r := seeded(30000 + seed)
		s, rows := someRows(t, r, 1+r.IntN(80), r.IntN(2) == 0)
		expectOneSequence(t, s, rows)
	}
}

// other: a row with something else in Event and in all that its kind does not use.
func other(r *rand.Rand, row api.Seen) api.Seen {
	n := func() int { return pick(r, append(farNumbers, 0, 1, 2, 3)...) }
	e := func() api.Entry {
		return entry(r.IntN(3), 1+r.IntN(3), pick(r, count, write(1, "a"), api.Op{Kind: n()}))
	}
	o := api.Seen{Kind: row.Kind, Event: n(), Node: n(), View: n(), Place: n(), Draw: api.Draw{Hi: r.Uint64(), Lo: r.Uint64()}, Entry: e(),
		Result: res(n(), n(), "x"), Log: []api.Entry{e(), e()}, Packet: api.Packet{From: r.IntN(7), To: n(), Bytes: []byte("x")}}
	switch row.Kind {
	case api.SeenAsked:
		o.Entry = row.Entry
	case api.SeenSent, api.SeenTaken:
		o.Packet = row.Packet
	case api.SeenDone:
		o.Node, o.View, o.Place, o.Entry = row.Node, row.View, row.Place, row.Entry
	case api.SeenLead, api.SeenBack:
		o.Node, o.View, o.Log = row.Node, row.View, row.Log
	case api.SeenReply:
		o.Entry.Client, o.Entry.Number, o.Result = row.Entry.Client, row.Entry.Number, row.Result
	case api.SeenDown:
		o.Node = row.Node
	case api.SeenUp:
		o.Node, o.Draw = row.Node, row.Draw
	case api.SeenTold:
		o.Node, o.Place, o.Entry, o.Result = row.Node, row.Place, row.Entry, row.Result
	}
	return o
}

// expectNoPart: P16.7, its first sentence.
func expectNoPart(t *testing.T, r *rand.Rand, s api.Setup, rows []api.Seen) {
	t.Helper()
	var others []api.Seen
	for _, row := range rows {
		others = append(others, other(r, row))
	}
	j, want := judgedOf(t, s, others), judgedOf(t, s, rows)
	if j.Fault != want.Fault || !slices.Equal(j.Sequence, want.Sequence) {
		t.Fatalf("%+v, want %+v", j, want)
	}
	a, b := history.Verify(s, others), history.Verify(s, rows)
	if (a == nil) != (b == nil) || a != nil && a.Error() != b.Error() {
		t.Fatalf("%v, want %v", a, b)
	}
	premises, _ := history.Premises(s.Config, rows)
	expectPremises(t, s.Config, others, premises)
}

func TestEventsHaveNoPart(t *testing.T) {
	t.Parallel()
	for seed := range uint64(500) {
		r := seeded(40000 + seed)
		s, rows := someRows(t, r, 1+r.IntN(60), r.IntN(2) == 0)
		expectNoPart(t, r, s, rows)
	}
}

// P16.7, its second sentence: a replica that does nothing but crash, start and return changes the premises alone, as long as its returns forget nothing.
func TestIdleReplicas(t *testing.T) {
	t.Parallel()
	changed := 0
	for seed := range uint64(200) {
		r := seeded(50000 + seed)
		s, rows := someRows(t, r, 1+r.IntN(40), r.IntN(2) == 0)
		idle := 2*s.Config.F + 1
		for node := range idle { // one that no row speaks of
			if !slices.ContainsFunc(rows, func(row api.Seen) bool { return row.Node == node || row.Packet.From == node }) {
				idle = node
			}
		}
		if idle == 2*s.Config.F+1 {
			s.Config.F, idle = s.Config.F+1, 2*s.Config.F+1 // in a greater group there is one; what decodes is another matter there
			rows = slices.DeleteFunc(rows, func(row api.Seen) bool { return row.Kind == api.SeenSent || row.Kind == api.SeenTaken })
		}
		want := judgedOf(t, s, rows)
		premises, _ := history.Premises(s.Config, rows)
		var more []api.Seen
		fault := want.Fault
		for i, row := range rows {
			for range r.IntN(3) {
				more = append(more, pick(r, down(idle), up(idle, lo(1)), back(idle, 3, append(slices.Clone(want.Sequence), eI)...)))
			}
			if i == want.Fault {
				fault = len(more)
			}
			more = append(more, row)
		}
		j := judgedOf(t, s, more)
		if j.Fault != fault || !slices.Equal(j.Sequence, want.Sequence) {
			t.Fatalf("%+v, want %+v and %d", j, want, fault)
		}
		if p, _ := history.Premises(s.Config, more); (p.Few < 0) != (premises.Few < 0) || (p.Fresh < 0) != (premises.Fresh < 0) {
			changed++
		}
	}
	if changed < 20 {
		t.Error("too few:", changed)
	}
}

// expectSeen: P16.8, of rows without a fault: each way, at each row where it may be; how often each was tried.
func expectSeen(t *testing.T, s api.Setup, rows []api.Seen, met map[string]int) {
	t.Helper()
	if j := judgedOf(t, s, rows); j.Fault != -1 {
		t.Fatal(j)
	}
	broken := func(what string, rows []api.Seen) {
		t.Helper()
		met[what]++
		if j := judgedOf(t, s, rows); j.Fault < 0 || history.Verify(s, rows) == nil {
			t.Fatalf("%s: not seen: %+v", what, rows)
		}
	}
	told := make(map[int]int) // by place: how many Dones tell it
	for _, row := range rows {
		if row.Kind == api.SeenDone {
			told[row.Place]++
		}
	}
	for i, row := range rows {
		others := slices.Clone(rows)
		switch row.Kind {
		case api.SeenDone:
			for _, e := range unlike(row.Entry) {
				if others[i].Entry = e; told[row.Place] > 1 {
					broken("done", others)
				}
			}
		case api.SeenReply, api.SeenTold:
			for _, r := range []api.Result{{}, res(row.Result.Code+1, row.Result.Slot, row.Result.Value), res(row.Result.Code, row.Result.Slot+1, row.Result.Value), res(row.Result.Code, row.Result.Slot, row.Result.Value+"x")} {
				if others[i].Result = r; r != row.Result {
					broken([]string{api.SeenReply: "reply", api.SeenTold: "told"}[row.Kind], others)
				}
			}
		case api.SeenLead:
			broken("lead", slices.Insert(others, i, row))
		}
	}
}

// unlike: entries that are not that one.
func unlike(e api.Entry) []api.Entry {
	l := []api.Entry{e, e, e, e, e}
	l[0].Client++
	l[1].Number++
	l[2].Op.Kind++
	l[3].Op.Slot++
	l[4].Op.Value += "x"
	return l
}

func TestFaultsAreSeen(t *testing.T) {
	t.Parallel()
	met := make(map[string]int)
	for seed := range uint64(40) {
		s, rows := someRows(t, seeded(60000+seed), 80, true)
		expectSeen(t, s, rows, met)
		// An exchanged entry is another one of the rows'.
		sequence := judgedOf(t, s, rows).Sequence
		for i, row := range rows {
			others := slices.Clone(rows)
			for _, e := range sequence {
				others[i].Entry = e
				twice := 0
				for _, other := range rows {
					if other.Kind == api.SeenDone && other.Place == row.Place {
						twice++
					}
				}
				if row.Kind == api.SeenDone && e != row.Entry && twice > 1 && judgedOf(t, s, others).Fault < 0 {
					t.Fatal("not seen:", row, e)
				}
			}
		}
	}
	expectEnough(t, met, map[string]int{"done": 300, "reply": 100, "told": 50, "lead": 50})
}
