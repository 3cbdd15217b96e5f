package explore_test

import (
	"reflect"
	"slices"
	"testing"

	"amnesia/api"
	"amnesia/cluster"
)

// P24.2: each of the things that are asked, unlike by itself. Scripts that differ in what was seen alone mostly end with all replicas crashed and nothing under way, so that nothing else of it is left.

var (
	opA = write(7, "a")
	opB = write(7, "b")
)

// looksAlike: are two ends alike, but for what was seen?
func looksAlike(t *testing.T, a, b *driver) bool {
	t.Helper()
	x, _ := modelRun(a.setup, nil, a.script)
	y, _ := modelRun(b.setup, nil, b.script)
	return slices.Equal(x.looks, y.looks) && reflect.DeepEqual(x.states, y.states) && sameHeap(x.pool, y.pool)
}

// expectUnlikeBy: the two are unlike, by what was seen alone.
func expectUnlikeBy(t *testing.T, a, b *driver) {
	t.Helper()
	if !looksAlike(t, a, b) {
		t.Fatal("they look unlike")
	}
	expectAlike(t, a.setup, a.script, b.script, false)
}

func TestReplicasUnlike(t *testing.T) {
	for _, c := range []api.Config{three, unsure, five, seven} {
		s := setupOf(c)
		for a := range 2*c.F + 1 {
			// One is crashed, or another one, or more of them.
			expectAlike(t, s, each(crash, a), nil, false)
			for b := range 2*c.F + 1 {
				expectAlike(t, s, each(crash, a), each(crash, b), a == b)
				expectAlike(t, s, each(crash, a, b), each(crash, b, a), true)
				expectAlike(t, s, each(crash, a, b), each(crash, a), a == b)
				// A state is another one: by its Idle alone.
				if a > 0 && b > 0 {
					expectAlike(t, s, each(tick, a), each(tick, b), a == b)
					expectAlike(t, s, each(tick, a, b), each(tick, b, a), true)
					expectAlike(t, s, each(tick, a, b, b), each(tick, a, a, b), a == b)
				}
			}
		}
		// What a replica had ahead of its crash is gone.
		expectAlike(t, s, []api.Event{tick(1), crash(1)}, each(crash, 1), true)
		expectAlike(t, s, []api.Event{crash(1), tick(1), crash(1)}, each(crash, 1), true)
		// So is its draw: the scripts that follow it are told by its greatest one.
		expectAlike(t, s, []api.Event{crash(1), stillborn(1, lo(3))}, each(crash, 1), true)
	}
	s := setupOf(three)
	back := func(d api.Draw) *driver {
		return driving(t, s, crash(1), restart(1, d)).drops(1, 0, api.KindRecovery).drops(1, 2, api.KindRecovery)
	}
	expectAlike(t, s, back(lo(3)).script, back(lo(3)).script, true)
	expectAlike(t, s, back(lo(3)).script, back(lo(4)).script, false)
	expectAlike(t, s, back(lo(3)).script, back(api.Draw{Hi: 3}).script, false)
	expectAlike(t, s, back(lo(3)).script, nil, false)
}

// Each field of a state: pairs of scripts whose ends differ by little, held against the model, which compares states whole.
func TestStatesUnlike(t *testing.T) {
	t.Parallel()
	s := setupOf(five, 0, 0)
	begun := func() *driver { return driving(t, s, submit(0, opA), submit(1, opB)) }
	var ends []*driver
	lay := func(d *driver) { ends = append(ends, d.clears()) }
	lay(begun())
	lay(begun().do(tick(1)))
	lay(begun().do(tick(2)))
	lay(begun().gives(7, 0, api.KindRequest))                              // a log
	lay(begun().gives(8, 0, api.KindRequest))                              // another one
	lay(begun().gives(7, 0, api.KindRequest).gives(8, 0, api.KindRequest)) // and longer ones
	lay(begun().gives(8, 0, api.KindRequest).gives(7, 0, api.KindRequest))
	lay(begun().gives(7, 0, api.KindRequest).gives(0, 1, api.KindPrepare))                                // at 1 too
	lay(begun().gives(7, 0, api.KindRequest).gives(0, 2, api.KindPrepare))                                // at 2 too
	lay(begun().gives(7, 0, api.KindRequest).gives(0, 1, api.KindPrepare).gives(1, 0, api.KindPrepareOK)) // an Ack
	lay(begun().gives(7, 0, api.KindRequest).gives(0, 1, api.KindPrepare).gives(1, 0, api.KindPrepareOK).do(tick(3)))
	acked := func() *driver {
		return begun().gives(7, 0, api.KindRequest).gives(0, 1, api.KindPrepare).gives(0, 2, api.KindPrepare)
	}
	lay(acked())
	lay(acked().gives(1, 0, api.KindPrepareOK))
	lay(acked().gives(2, 0, api.KindPrepareOK))
	lay(acked().gives(2, 0, api.KindPrepareOK).gives(1, 0, api.KindPrepareOK))                             // a commit number
	lay(acked().gives(2, 0, api.KindPrepareOK).gives(1, 0, api.KindPrepareOK).gives(0, 1, api.KindCommit)) // at 1 too
	lay(begun().suspects(1))                                                                               // a view
	lay(begun().suspects(2))
	lay(begun().suspects(1).gives(1, 2, api.KindStartViewChange)) // a Mark
	lay(begun().suspects(1).gives(1, 2, api.KindStartViewChange).gives(2, 3, api.KindStartViewChange))
	lay(begun().suspects(1).gives(1, 3, api.KindStartViewChange).gives(3, 2, api.KindStartViewChange))
	lay(begun().suspects(3).gives(3, 2, api.KindStartViewChange).suspects(3)) // 3 is in view 2, 2 in view 1
	ballots := func() *driver {
		d := begun().suspects(2).gives(2, 3, api.KindStartViewChange).gives(2, 4, api.KindStartViewChange)
		return d.gives(3, 4, api.KindStartViewChange).gives(4, 3, api.KindStartViewChange)
	}
	lay(ballots())
	lay(ballots().gives(3, 1, api.KindStartViewChange))
	lay(ballots().gives(3, 1, api.KindStartViewChange).gives(3, 1, api.KindDoViewChange)) // a Ballot
	lay(ballots().gives(3, 1, api.KindStartViewChange).gives(4, 1, api.KindDoViewChange))
	recovering := func() *driver { return begun().do(crash(4), restart(4, lo(1))) }
	lay(recovering())
	lay(recovering().gives(4, 0, api.KindRecovery))
	for _, other := range []int{0, 1, 2} { // an Answer, of the primary or not
		lay(recovering().gives(4, other, api.KindRecovery).gives(other, 4, api.KindRecoveryResponse))
	}
	logged := func() *driver { return begun().gives(7, 0, api.KindRequest).do(crash(4), restart(4, lo(1))) }
	lay(logged().gives(4, 0, api.KindRecovery).gives(0, 4, api.KindRecoveryResponse)) // with a log
	met := make(map[bool]int)
	for i, a := range ends {
		for _, b := range ends[i:] {
			x, _ := modelRun(s, nil, a.script)
			y, _ := modelRun(s, nil, b.script)
			want := x.isAlike(y)
			expectAlike(t, s, a.script, b.script, want)
			met[want]++
		}
	}
	if met[true] != len(ends) { // each is like itself alone
		t.Error(met, len(ends))
	}
}

func TestClientsUnlike(t *testing.T) {
	s := setupOf(three, 0, 0)
	gone := func(script ...api.Event) *driver { return driving(t, s, script...).clears() }
	none := gone()
	asks := gone(query(0, 1, count))
	for _, other := range []*driver{
		none,                       // asks, and how many Queries
		gone(query(1, 1, count)),   // who asks
		gone(query(0, 1, read(0))), // what
		gone(query(0, 1, read(1))),
		gone(query(0, 1, count), query(0, 1, count)), // how often
	} {
		expectAlike(t, s, asks.script, other.script, false)
	}
	expectAlike(t, s, asks.script, gone(query(0, 2, count)).script, true) // whom, is not asked when it is lost
	told := func() *driver { return driving(t, s, query(0, 1, count)).gives(7, 1, api.KindQuery) }
	expectAlike(t, s, asks.script, told().clears().script, true)
	expectAlike(t, s, asks.script, told().gives(1, 7, api.KindTold).clears().script, false) // what it is told
	expectAlike(t, s, told().gives(1, 7, api.KindTold).script, told().gives(1, 7, api.KindTold).script, true)

	asked := func(op api.Op) *driver { return driving(t, s, submit(0, op)) }
	expectAlike(t, s, asked(opA).clears().script, none.script, false)
	expectAlike(t, s, asked(opA).clears().script, asked(opB).clears().script, false)
	answered := func() *driver { return asked(opA).commits(0, 1) }
	expectAlike(t, s, answered().gives(0, 7, api.KindReply).script, answered().drops(0, 7, api.KindReply).script, false) // waits
	// The numbers with which clients begin are the setup's, the same for both.
	expectAlike(t, setupOf(three, 5, 9), []api.Event{retry(0)}, nil, true)
}

func TestPoolsUnlike(t *testing.T) {
	s := setupOf(three, 0)
	a, b, c := inject(0, 1, []byte("a")), inject(0, 1, []byte("b")), inject(0, 1, []byte("c"))
	l := func(script ...api.Event) []api.Event { return script }
	for _, x := range []struct {
		a, b []api.Event
		want bool
	}{
		{l(a), nil, false},
		{l(a, a), l(a), false},               // a packet more
		{l(a), l(b), false},                  // another one
		{l(a, b), l(b, a), true},             // in another order
		{l(a, b, c, a), l(a, a, c, b), true}, // each as often
		{l(a, b, b), l(a, a, b), false},      // not as often
		{l(a, a, b, b), l(a, b, a, b), true},
		{l(a, a, b, b), l(a, b, b, b), false},
		{l(a, twice(0)), l(a, a), true}, // however they came
		{l(a, b, drop(0)), l(b), true},
		{l(a, spoil(0, 0, 3)), l(b), true}, // "b"
		{l(a, spoil(0, 0, 1)), l(b), false},
		{l(a), l(inject(2, 1, []byte("a"))), false}, // from another
		{l(a), l(inject(0, 2, []byte("a"))), false}, // to another
		{l(a), l(inject(7, 1, []byte("a"))), false},
		{l(inject(0, 1, nil)), nil, false},
		{l(inject(0, 1, nil)), l(inject(0, 1, []byte{})), true},
		{l(inject(0, 1, nil)), l(inject(0, 1, []byte{0})), false},
		{l(inject(0, 1, []byte("ab")), inject(0, 1, []byte("c"))), l(a, inject(0, 1, []byte("bc"))), false}, // cut at another place
		{l(inject(0, 1, []byte("ab")), inject(0, 1, nil)), l(a, b), false},
	} {
		expectAlike(t, s, x.a, x.b, x.want)
	}
}

func TestAskedUnlike(t *testing.T) {
	s := setupOf(three, 0, 0)
	// The last request is the same; the one ahead of it is not.
	a := driving(t, s, submit(0, opA), submit(0, count)).clears()
	b := driving(t, s, submit(0, opB), submit(0, count)).clears()
	expectUnlikeBy(t, a, b)
	// Their order does not matter.
	a = driving(t, s, submit(0, opA), submit(1, opB)).clears()
	b = driving(t, s, submit(1, opB), submit(0, opA)).clears()
	expectAlike(t, s, a.script, b.script, true)
	expectAlike(t, s, a.script, driving(t, s, submit(1, opA), submit(0, opB)).clears().script, false)
	// Nor does asking the same once more: no request is made by it.
	expectAlike(t, s, a.script, a.do(retry(0)).clears().script, true)
}

func TestSequencesUnlike(t *testing.T) {
	s := setupOf(three, 0, 0)
	begun := func() *driver { return driving(t, s, submit(0, opA), submit(1, opB)) }
	none, a, b := begun().ends(), begun().commits(0, 1).ends(), begun().commits(1, 1).ends()
	both := begun().commits(0, 1).gives(8, 0, api.KindRequest).gives(0, 1, api.KindPrepare).gives(1, 0, api.KindPrepareOK).ends()
	turned := begun().commits(1, 1).gives(7, 0, api.KindRequest).gives(0, 1, api.KindPrepare).gives(1, 0, api.KindPrepareOK).ends()
	for i, x := range []*driver{none, a, b, both, turned} {
		for k, y := range []*driver{none, a, b, both, turned} {
			if i != k {
				expectUnlikeBy(t, x, y)
			}
		}
	}
	// Whoever carried it out, and how often.
	expectAlike(t, s, a.script, begun().commits(0, 2).ends().script, true)
	expectAlike(t, s, a.script, begun().commits(0, 1).gives(0, 1, api.KindCommit).ends().script, true)
}

// A fault in one alone; where it is does not matter, nor which it is.
func TestFaultsUnlike(t *testing.T) {
	s := setupOf(three, 0)
	lie := func(node int) api.Event { return inject(1, node, forged(t, three, entry(0, 1, opA))) }
	a := driving(t, s, lie(2), deliver(0)).ends()
	none := driving(t, s).ends()
	if a.fault() < 0 || none.fault() >= 0 {
		t.Fatal(a.fault(), none.fault())
	}
	expectUnlikeBy(t, a, none)
	b := driving(t, s, query(0, 1, count)).clears().do(lie(2), deliver(0)).ends()
	c := driving(t, s, lie(2), deliver(0), query(0, 1, count)).ends()
	if b.fault() == c.fault() || b.fault() < 0 || c.fault() < 0 {
		t.Fatal(b.fault(), c.fault())
	}
	expectAlike(t, s, b.script, c.script, true)
	// Another reason: what stands behind a place that nobody has carried out.
	l := driving(t, s, inject(1, 2, forged(t, three, entry(5, 1, opA), entry(6, 1, opB))), deliver(0)).ends()
	if l.fault() < 0 {
		t.Fatal("no fault")
	}
	expectAlike(t, s, l.script, a.script, true)
	expectUnlikeBy(t, l, none)
	// Of what comes behind a fault nothing is laid into the sequence; but it was seen.
	later := driving(t, s, submit(0, opA), lie(2)).do(deliver(3)).commits(0, 1).ends()
	if j := judged(t, s, later.rows); j.Fault >= 0 { // now somebody asked for it
		t.Fatal(j)
	}
	ahead := driving(t, s, lie(2), deliver(0), submit(0, opA)).commits(0, 1).ends()
	if j := judged(t, s, ahead.rows); j.Fault < 0 || len(j.Sequence) != 0 {
		t.Fatal(j)
	}
	expectAlike(t, s, ahead.script, driving(t, s, submit(0, opA), inject(1, 2, forged(t, three, entry(5, 1, opA))), deliver(3)).ends().script, true)
}

// changes: the view 1 is started by 1, with the ballot of 0.
func (d *driver) changes() *driver {
	d.t.Helper()
	return d.suspects(1).gives(1, 0, api.KindStartViewChange).gives(0, 1, api.KindDoViewChange)
}

func TestLeadsUnlike(t *testing.T) {
	s := setupOf(three, 0, 0)
	begun := func() *driver { return driving(t, s, submit(0, opA), submit(1, opB)) }
	none, empty := begun().ends(), begun().changes().ends()
	a := begun().gives(7, 0, api.KindRequest).changes().ends()
	b := begun().gives(8, 0, api.KindRequest).changes().ends()
	both := begun().gives(7, 0, api.KindRequest).gives(8, 0, api.KindRequest).changes().ends()
	second := begun().do(repeated(11, tick(2))...).clears().do(tick(2)).gives(2, 0, api.KindStartViewChange).gives(0, 2, api.KindDoViewChange).ends()
	all := []*driver{none, empty, a, b, both, second}
	for i, x := range all {
		for k, y := range all {
			if i != k {
				expectUnlikeBy(t, x, y)
			}
		}
	}
	// Their order does not matter: view 1 waits for a ballot that comes ahead of the one for view 2, or behind it.
	late := func() *driver {
		d := driving(t, s).suspects(1).gives(1, 2, api.KindStartViewChange).do(repeated(5, tick(2))...)
		under := len(d.u.Pool()) // calls for view 1, and a ballot for it
		d.do(tick(2))
		return d.do(deliver(under)) // the call for view 2, to 0
	}
	one := late().gives(2, 1, api.KindDoViewChange).gives(0, 2, api.KindDoViewChange)
	other := late().gives(0, 2, api.KindDoViewChange).gives(2, 1, api.KindDoViewChange)
	if x, y := one.leads(), other.leads(); !slices.Equal(x, []int{1, 2}) || !slices.Equal(y, []int{2, 1}) {
		t.Fatal(x, y)
	}
	expectAlike(t, s, one.ends().script, other.ends().script, true)
}

// leads: the views that were started, in that order.
func (d *driver) leads() []int {
	var views []int
	for _, row := range d.rows {
		if row.Kind == api.SeenLead {
			views = append(views, row.View)
		}
	}
	return views
}

// The same entry, carried out in view 0 and view 1, or in view 1 alone.
func TestLeastViewsUnlike(t *testing.T) {
	s := setupOf(three, 0)
	begun := func() *driver {
		return driving(t, s, submit(0, opA)).gives(7, 0, api.KindRequest).gives(0, 1, api.KindPrepare)
	}
	views := func(d *driver) []int {
		var l []int
		for _, row := range d.rows {
			if row.Kind == api.SeenDone {
				l = append(l, row.View)
			}
		}
		return l
	}
	a := begun().gives(1, 0, api.KindPrepareOK).changes()
	b := begun().changes().gives(1, 2, api.KindStartView).gives(2, 1, api.KindPrepareOK)
	c := begun().gives(1, 0, api.KindPrepareOK).changes().gives(1, 2, api.KindStartView)
	if x, y := views(a), views(b); !slices.Contains(x, 0) || slices.Contains(y, 0) || len(y) == 0 {
		t.Fatal(x, y)
	}
	if x, y := judged(t, s, a.rows), judged(t, s, b.rows); x.Fault >= 0 || y.Fault >= 0 || !slices.Equal(x.Sequence, y.Sequence) {
		t.Fatal(x, y)
	}
	expectUnlikeBy(t, a.ends(), b.ends())
	expectAlike(t, s, a.ends().script, c.ends().script, true) // that it was carried out in a greater view too does not matter
	// With a fault behind it in both it is the same.
	one := begun().gives(1, 0, api.KindPrepareOK).changes().lies(2).ends()
	other := begun().changes().gives(1, 2, api.KindStartView).gives(2, 1, api.KindPrepareOK).lies(2).ends()
	expectUnlikeBy(t, one, other)
	third := begun().gives(1, 0, api.KindPrepareOK).changes().gives(1, 2, api.KindStartView).lies(0).ends()
	expectAlike(t, s, one.script, third.script, true)
	// What is carried out behind the fault, at a place of the sequence, was seen too: by 0, who has not heard of view 1.
	later := func() *driver {
		d := begun().suspects(1).gives(1, 2, api.KindStartViewChange).gives(2, 1, api.KindDoViewChange)
		return d.gives(1, 2, api.KindStartView).gives(2, 1, api.KindPrepareOK).lies(2)
	}
	heard := later().gives(1, 0, api.KindPrepareOK)
	if l := views(heard); l[0] != 1 || l[len(l)-1] != 0 {
		t.Fatal(l)
	}
	expectUnlikeBy(t, heard.ends(), later().ends())
}

// A replica that recovers: what it must have when it returns hangs on when it started.
func TestLastStartsUnlike(t *testing.T) {
	s := setupOf(three, 0)
	early := func() *driver { return driving(t, s, submit(0, opA), crash(2), restart(2, lo(1))).commits(0, 1) }
	late := func() *driver { return driving(t, s, submit(0, opA)).commits(0, 1).do(crash(2), restart(2, lo(1))) }
	if s, _ := early().u.Look(2); s.Status != api.StatusRecovering {
		t.Fatal(s)
	}
	expectUnlikeBy(t, early(), late())
	// It is the last start that counts.
	again := func(d *driver, draw uint64) *driver { return d.clears().do(crash(2), restart(2, lo(draw))) }
	expectAlike(t, s, again(early(), 9).script, again(late(), 9).script, true)
	// Behind its return, or its crash, that does not matter.
	crashed := func(d *driver) *driver { return d.do(crash(2)) }
	expectAlike(t, s, crashed(early()).script, crashed(late()).script, true)
	back := func(d *driver) *driver {
		d.gives(2, 0, api.KindRecovery).gives(2, 1, api.KindRecovery)
		return d.gives(0, 2, api.KindRecoveryResponse).gives(1, 2, api.KindRecoveryResponse)
	}
	x, _ := back(early()).u.Look(2)
	if x.Status != api.StatusNormal {
		t.Fatal(x)
	}
	expectAlike(t, s, back(early()).clears().script, back(late()).clears().script, true)
	// A fault that comes later changes nothing of it.
	expectUnlikeBy(t, early().lies(0), late().lies(0))
	// Behind a fault the sequence is as long as it was at it, so a start ahead of the entry and one behind it are the same.
	lie := []api.Event{inject(1, 0, forged(t, three, entry(5, 1, opA))), deliver(0), crash(0)}
	one := driving(t, s, append(slices.Clip(lie), submit(0, opA), crash(2), restart(2, lo(1)))...)
	other := driving(t, s, append(slices.Clip(lie), crash(2), restart(2, lo(1)), submit(0, opA))...)
	expectAlike(t, s, one.clears().script, other.clears().script, true)
}

// A request that was replied to, or not; all that a client has is the same.
func TestRepliesUnlike(t *testing.T) {
	s := setupOf(three, 0)
	begun := func() *driver { return driving(t, s, submit(0, opA)).commits(0, 1) }
	// The place up to which it has seen the ledger comes by a reading in both.
	reads := func(d *driver) *driver {
		return d.do(query(0, 0, count)).gives(7, 0, api.KindQuery).gives(0, 7, api.KindTold).do(submit(0, count))
	}
	a, b := reads(begun().gives(0, 7, api.KindReply)).ends(), reads(begun().drops(0, 7, api.KindReply)).ends()
	expectUnlikeBy(t, a, b)
	// Requests of two clients, replied to in either order.
	s = setupOf(three, 0, 0)
	pair := func() *driver {
		d := driving(t, s, submit(0, opA), submit(1, opB)).commits(0, 1)
		return d.gives(8, 0, api.KindRequest).gives(0, 1, api.KindPrepare).gives(1, 0, api.KindPrepareOK)
	}
	a, b = pair().gives(0, 7, api.KindReply).gives(0, 8, api.KindReply), pair().gives(0, 8, api.KindReply).gives(0, 7, api.KindReply)
	expectAlike(t, s, a.script, b.script, true)
}

// The greatest place of which a client was told, or that there is none; all that a client has is the same.
func TestReadingsUnlike(t *testing.T) {
	s := setupOf(three, 0)
	reads := func(d *driver, is bool) *driver {
		d.do(query(0, 0, count))
		if is {
			return d.gives(7, 0, api.KindQuery).gives(0, 7, api.KindTold)
		}
		return d.drops(7, 0, api.KindQuery)
	}
	asks := func(d *driver) *driver { return d.do(query(0, 0, count)).drops(7, 0, api.KindQuery) }
	// Place 0, or none.
	expectUnlikeBy(t, asks(reads(driving(t, s), true)).ends(), asks(reads(driving(t, s), false)).ends())
	one := func() *driver { return driving(t, s, submit(0, opA)).commits(0, 1).gives(0, 7, api.KindReply) }
	two := func(d *driver) *driver {
		return d.do(submit(0, opB)).commits(0, 1).gives(0, 7, api.KindReply)
	}
	// Place 1, or none; place 1, or 2; place 0, or 1.
	expectUnlikeBy(t, asks(reads(one(), true)).ends(), asks(reads(one(), false)).ends())
	first, second := asks(two(reads(one(), true))), asks(reads(two(one()), true))
	expectUnlikeBy(t, first.ends(), second.ends())
	nothing := asks(func() *driver {
		d := reads(driving(t, s), true)
		return d.do(submit(0, opA)).commits(0, 1).gives(0, 7, api.KindReply)
	}())
	expectUnlikeBy(t, nothing.ends(), asks(reads(one(), true)).ends())
	// Of several the greatest: those ahead of it, and how many there were, are not asked (but for how many Queries the client made).
	expectAlike(t, s, reads(two(reads(one(), true)), true).ends().script, reads(two(reads(one(), false)), true).ends().script, true)
}

// What else was seen, and how it came about, is not asked.
func TestWhatIsNotAsked(t *testing.T) {
	s := setupOf(three, 0)
	for _, x := range [][2][]api.Event{
		{nil, {retry(0), drop(0), twice(3), spoil(0, 0, 1), deliver(9)}},
		{nil, {round(1), drop(0), drop(0), tick(1)}}, // another Idle: unlike
		{each(crash, 0, 1, 2), each(crash, 2, 2, 1, 0)},
		{{tick(0), drop(0), drop(0)}, nil},
		{{submit(0, count)}, {submit(0, count), retry(0), drop(3), drop(3), drop(3)}},
		{{crash(1), restart(1, lo(2)), crash(1), drop(0), drop(0)}, {crash(1), stillborn(1, lo(9)), stillborn(1, lo(1))}},
	} {
		x0, _ := modelRun(s, nil, x[0])
		x1, _ := modelRun(s, nil, x[1])
		expectAlike(t, s, x[0], x[1], x0.isAlike(x1))
	}
	expectAlike(t, s, nil, []api.Event{retry(0), drop(0), twice(3), spoil(0, 0, 1), deliver(9)}, true)
	expectAlike(t, s, []api.Event{crash(1), restart(1, lo(2)), crash(1), drop(0), drop(0)}, []api.Event{crash(1), stillborn(1, lo(9))}, true)
}

// Alike goes over any length.
func TestLongScriptsAlike(t *testing.T) {
	s := setupOf(three, 0)
	quiet := cluster.Bound(three)
	long := func(op api.Op) []api.Event { return []api.Event{submit(0, op), round(quiet)} }
	expectAlike(t, s, long(opA), []api.Event{submit(0, opA), round(quiet / 2), round(quiet - quiet/2)}, true)
	expectAlike(t, s, long(opA), long(opB), false)
	expectAlike(t, s, repeated(4096, retry(0)), nil, true)
}
