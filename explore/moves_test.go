package explore_test

import (
	"math"
	"slices"
	"testing"

	"amnesia/api"
)

// P24.1: what may come next, kind by kind.

// All kinds at one time, in their order; a field that is not named is zero.
func TestTheOrderOfMoves(t *testing.T) {
	p := api.Scope{
		Setup:  setupOf(five, 0, 3),
		Before: []api.Event{submit(1, add("x")), crash(3)},
		Ops:    []api.Op{write(7, "a"), read(7)}, Depth: 12, Ticks: 1, Drops: 1, Copies: 1, Crashes: 1,
	}
	packets := upTo(5)
	expectMoves(t, p, nil, []api.Event{submit(0, write(7, "a"))},
		moving(deliver, packets...), moving(drop, packets...), moving(twice, packets...),
		each(tick, 0, 1, 2, 4), each(crash, 0, 1, 2, 4), []api.Event{restart(3, lo(1))})
	// Without what is used up the rest stays.
	expectMoves(t, p, []api.Event{drop(0)}, []api.Event{submit(0, write(7, "a"))},
		moving(deliver, upTo(4)...), moving(twice, upTo(4)...), each(tick, 0, 1, 2, 4), each(crash, 0, 1, 2, 4), []api.Event{restart(3, lo(1))})
	expectMoves(t, p, []api.Event{twice(4)}, []api.Event{submit(0, write(7, "a"))},
		moving(deliver, packets...), moving(drop, packets...), each(tick, 0, 1, 2, 4), each(crash, 0, 1, 2, 4), []api.Event{restart(3, lo(1))})
	expectMoves(t, p, []api.Event{tick(1)}, []api.Event{submit(0, write(7, "a"))},
		moving(deliver, packets...), moving(drop, packets...), moving(twice, packets...), each(crash, 0, 1, 2, 4), []api.Event{restart(3, lo(1))})
	expectMoves(t, p, []api.Event{crash(1)}, []api.Event{submit(0, write(7, "a"))},
		moving(deliver, packets...), moving(drop, packets...), moving(twice, packets...), each(tick, 0, 2, 4), []api.Event{restart(1, lo(1)), restart(3, lo(1))})
	// All is used up: what there is no number for stays.
	all := []api.Event{tick(1), twice(0), drop(5), submit(0, write(7, "a")), crash(4), drop(0), twice(0), drop(0)}
	expectMoves(t, p, all, moving(deliver, upTo(9)...), []api.Event{restart(3, lo(1)), restart(4, lo(1))})
}

// Each number, with some used up, one left, and none; what Before has used is not counted.
func TestWhatIsUsedUp(t *testing.T) {
	for _, x := range []struct {
		name string
		one  api.Event
		of   func(int) api.Event
	}{
		{"Ticks", tick(1), tick}, {"Drops", drop(0), drop}, {"Copies", twice(0), twice}, {"Crashes", crash(1), crash},
	} {
		for most := range 13 {
			for used := range 12 {
				p := api.Scope{Setup: setupOf(three), Depth: 12, Before: scriptOf(repeated(9, tick(0)), []api.Event{drop(0), twice(1), crash(2), restart(2, lo(4)), drop(16), drop(16)})}
				*numbersOf(&p)[x.name] = most
				// A crash of a replica that is crashed is one too, and so is a drop where nothing is under way.
				script := repeated(used, x.one)
				l := moves(t, p, script)
				got := slices.ContainsFunc(l, func(e api.Event) bool { return e.Kind == x.one.Kind })
				isMet := used < most
				switch {
				case x.name == "Crashes" && used > 0: // F are crashed
					isMet = false
				case x.name == "Drops" && used > 10:
					continue
				}
				if got != isMet {
					t.Fatal(x.name, most, used, l)
				}
			}
		}
	}
}

// What counts is the kind, whatever an event does; other kinds than these do not count.
func TestWhatCounts(t *testing.T) {
	p := api.Scope{Setup: setupOf(three, 0), Ops: []api.Op{count, count}, Depth: 12, Ticks: 1, Drops: 1, Copies: 1, Crashes: 1}
	p.Setup.Config.Patience = 100
	ticks, crashes := each(tick, 0, 1, 2), each(crash, 0, 1, 2)
	second := []api.Event{submit(0, count)}
	// On an empty pool nothing happens; it is a Drop, or a Copy, all the same.
	expectMoves(t, p, []api.Event{drop(0)}, second, ticks, crashes)
	p.Before = []api.Event{inject(0, 1, nil)}
	one := []api.Event{deliver(0)}
	expectMoves(t, p, []api.Event{twice(0), drop(1)}, second, one, ticks, crashes)
	expectMoves(t, p, []api.Event{spoil(0, 0, 1), retry(0), deliver(0), inject(0, 1, []byte{1}), query(0, 1, count)}, second,
		moving(deliver, 0, 1), moving(drop, 0, 1), moving(twice, 0, 1), ticks, crashes)
	// A crash by a cut is no Crash; a tick with a cut is a Tick.
	cut := tick(2)
	cut.Cut = 1
	expectMoves(t, p, []api.Event{cut}, second, one, moving(drop, 0), moving(twice, 0), []api.Event{restart(2, lo(1))})
	p.Crashes = 2
	p.Setup = setupOf(five, 0)
	expectMoves(t, p, []api.Event{cut, crash(2)}, second, one, moving(drop, 0), moving(twice, 0), each(crash, 0, 1, 3, 4), []api.Event{restart(2, lo(1))})
	p.Crashes = 1
	expectMoves(t, p, []api.Event{cut, crash(2)}, second, one, moving(drop, 0), moving(twice, 0), []api.Event{restart(2, lo(1))})
	// A round is one event, and its ticks are no Ticks; what it delivers is gone.
	expectMoves(t, p, []api.Event{round(1)}, second, moving(deliver, 0, 1, 2, 3), moving(drop, 0, 1, 2, 3), moving(twice, 0, 1, 2, 3), each(tick, 0, 1, 2, 3, 4), each(crash, 0, 1, 2, 3, 4))
}

func TestSubmits(t *testing.T) {
	ops := []api.Op{write(0, "a"), add("b"), read(2), count, write(4, "")}
	next := func(p api.Scope, script ...api.Event) []api.Event {
		t.Helper()
		l := expectModelMoves(t, p, script)
		if len(l) > 0 && l[0].Kind == api.EventSubmit {
			if slices.ContainsFunc(l[1:], func(e api.Event) bool { return e.Kind == api.EventSubmit }) {
				t.Fatal("more than one:", l)
			}
			return l[:1]
		}
		return nil
	}
	expect := func(p api.Scope, want []api.Event, script ...api.Event) {
		t.Helper()
		if l := next(p, script...); !sameEvents(l, want) {
			t.Fatalf("behind %+v: %+v, want %+v", script, l, want)
		}
	}
	// No clients: nobody asks.
	expect(api.Scope{Setup: setupOf(three), Ops: ops, Depth: 12}, nil)
	// One client asks, waits, is answered, and asks again.
	p := api.Scope{Setup: setupOf(three, 0), Ops: ops[:3], Depth: 12}
	expect(p, []api.Event{submit(0, ops[0])})
	d := driving(t, p.Setup, submit(0, ops[0]))
	expect(p, nil, d.script...)
	d.commits(0, 1)
	expect(p, nil, d.script...)
	d.gives(0, 7, api.KindReply)
	expect(p, []api.Event{submit(0, ops[1])}, d.script...)
	d.do(submit(0, ops[1])).commits(0, 1)
	expect(p, nil, d.script...)
	d.gives(0, 7, api.KindReply)
	expect(p, []api.Event{submit(0, ops[2])}, d.script...)
	p.Ops = ops[:2]
	expect(p, nil, d.script...)
	p.Ops = nil
	expect(p, nil)
	// What Before has asked is none of the Ops; but who waits by it waits.
	p = api.Scope{Setup: setupOf(three, 0, 0), Before: []api.Event{submit(0, count), submit(1, count), submit(1, read(3))}, Ops: ops[:2], Depth: 12}
	expect(p, nil)
	p.Before = []api.Event{submit(1, count)}
	expect(p, []api.Event{submit(0, ops[0])})
	expect(p, nil, submit(0, ops[0])) // it is the turn of 1, and that waits
	// Many in turn, by how many Submits there were, whoever made them, and whatever they asked.
	p = api.Scope{Setup: setupOf(three, 0, 5, greatest-1), Ops: ops, Depth: 12}
	expect(p, []api.Event{submit(0, ops[0])})
	expect(p, []api.Event{submit(1, ops[1])}, submit(0, ops[0]))
	expect(p, []api.Event{submit(2, ops[2])}, submit(0, ops[0]), submit(1, ops[1]))
	expect(p, nil, submit(0, ops[0]), submit(1, ops[1]), submit(2, ops[2]))
	expect(p, []api.Event{submit(1, ops[1])}, submit(2, read(9)))
	expect(p, []api.Event{submit(2, ops[2])}, submit(1, read(9)), submit(1, read(8)))
	expect(p, nil, submit(1, read(9))) // 1 waits
	expect(p, nil, repeated(4, submit(1, count))...)
	expect(p, []api.Event{submit(0, ops[3])}, repeated(3, submit(1, count))...)
	d = driving(t, p.Setup, submit(0, count)).commits(0, 1).gives(0, 7, api.KindReply).do(submit(1, count), submit(2, count))
	expect(p, []api.Event{submit(0, ops[3])}, d.script...)
	d = driving(t, p.Setup, submit(0, count), submit(1, count), submit(2, count), submit(0, count)).clears()
	expect(api.Scope{Setup: p.Setup, Ops: ops, Depth: 12, Before: d.script[:4]}, nil)
	// The greatest number: there is no next one.
	for _, number := range []int{greatest - 2, greatest - 1, greatest} {
		p = api.Scope{Setup: setupOf(three, number), Ops: ops, Depth: 12}
		if number == greatest {
			expect(p, nil)
			p.Setup.Clients = append(p.Setup.Clients, api.ClientSetup{})
			expect(p, nil) // it is the turn of 0, who can't
			continue
		}
		expect(p, []api.Event{submit(0, ops[0])})
		d = driving(t, p.Setup, submit(0, ops[0])).commits(0, 2).gives(0, 7, api.KindReply)
		want := []api.Event{submit(0, ops[1])}
		if number == greatest-1 {
			want = nil
		}
		expect(p, want, d.script...)
	}
}

// A reply that was refused is none, so the client waits.
func TestAClientThatWasRefused(t *testing.T) {
	c := three
	c.Room = 1
	p := api.Scope{Setup: setupOf(c, 0, 0), Ops: slices.Repeat([]api.Op{count}, 3), Depth: 12}
	d := driving(t, p.Setup, submit(0, count)).commits(0, 1).gives(0, 7, api.KindReply)
	d.do(submit(1, count)).gives(8, 0, api.KindRequest).gives(0, 8, api.KindReply)
	if look, _ := d.u.Client(1); !look.Waits {
		t.Fatal(look)
	}
	l := expectModelMoves(t, p, d.script)
	if !sameEvents(l[:1], []api.Event{submit(0, count)}) {
		t.Fatal(l)
	}
}

// Packets are the same if From, To and Bytes are: each is told once, at the first place.
func TestPacketsThatStandTwice(t *testing.T) {
	p := api.Scope{Setup: setupOf(three, 0), Depth: 12, Drops: 12, Copies: 12}
	all := func(places ...int) []api.Event {
		return scriptOf(moving(deliver, places...), moving(drop, places...), moving(twice, places...))
	}
	expectMoves(t, p, nil) // nothing is under way
	a, b := inject(0, 1, []byte("a")), inject(0, 1, []byte("b"))
	otherFrom, otherTo, none := inject(2, 1, []byte("a")), inject(0, 2, []byte("a")), inject(0, 1, nil)
	for _, x := range []struct {
		script []api.Event
		places []int
	}{
		{[]api.Event{a}, []int{0}},
		{[]api.Event{a, a}, []int{0}},
		{[]api.Event{a, b, a, b}, []int{0, 1}},
		{[]api.Event{a, a, b, b, a}, []int{0, 2}},
		{[]api.Event{a, otherFrom, otherTo, none}, []int{0, 1, 2, 3}},
		{[]api.Event{none, none, a, otherTo, none, otherFrom, a, otherFrom}, []int{0, 2, 3, 5}},
		{[]api.Event{a, twice(0), twice(1), b}, []int{0, 3}},
		{[]api.Event{a, twice(0), spoil(0, 0, 3), b}, []int{0, 1}}, // it is "b" now
		{[]api.Event{a, b, drop(0), a}, []int{0, 1}},
		{[]api.Event{inject(7, 1, []byte("a")), a, inject(1, 1, []byte("a"))}, []int{0, 1, 2}},
	} {
		expectMoves(t, p, x.script, all(x.places...))
		q := p
		q.Before = x.script
		expectMoves(t, q, nil, all(x.places...))
	}
	// The same Commits of some ticks, to 1 and 2 in turn.
	ticks := repeated(5, tick(0))
	for _, x := range []struct {
		drops  []api.Event
		places []int
	}{
		{nil, []int{0, 1}}, {repeated(1, drop(0)), []int{0, 1}}, {repeated(8, drop(0)), []int{0, 1}}, {repeated(9, drop(0)), []int{0}},
		{repeated(5, drop(1)), []int{0, 2}}, {moving(drop, 1, 2, 3, 4), []int{0, 5}}, {moving(drop, 1, 2, 3, 4, 5), []int{0}}, {repeated(10, drop(0)), nil},
	} {
		q := api.Scope{Setup: setupOf(three), Before: scriptOf(ticks, x.drops), Depth: 1}
		expectMoves(t, q, nil, moving(deliver, x.places...))
		expectModelMoves(t, q, nil)
	}
}

// Ticks and crashes are those of replicas that are alive; as many may be away as F.
func TestWhoIsAlive(t *testing.T) {
	for _, c := range []api.Config{three, five, {F: 3, Room: 4, Patience: 6}} {
		nodes := upTo(2*c.F + 1)
		p := api.Scope{Setup: setupOf(c), Depth: 12, Ticks: 1, Crashes: 12}
		expectMoves(t, p, nil, each(tick, nodes...), each(crash, nodes...))
		for crashed := 1; crashed <= len(nodes); crashed++ {
			script := each(crash, nodes[:crashed]...)
			again := func(node int) api.Event { return restart(node, lo(1)) }
			alive, gone := each(tick, nodes[crashed:]...), each(again, nodes[:crashed]...)
			var more []api.Event
			if crashed < c.F {
				more = each(crash, nodes[crashed:]...)
			}
			expectMoves(t, p, script, alive, more, gone)
			// By Before there may be more than F of them: none of the others crashes then, nor does one that recovers.
			q := p
			q.Before = script
			expectMoves(t, q, nil, alive, more, gone)
			silent := restart(0, lo(7)) // 0 recovers
			q.Before = append(slices.Clip(script), silent)
			d := driving(t, p.Setup, q.Before...)
			places := upTo(len(d.u.Pool()))
			alive = append([]api.Event{tick(0)}, alive...)
			switch {
			case crashed < c.F:
				more = append([]api.Event{crash(0)}, more...)
			case crashed == c.F:
				more = []api.Event{crash(0)}
			}
			expectMoves(t, q, nil, moving(deliver, places...), alive, more, gone[1:])
		}
	}
}

// A replica that is back is away no more.
func TestWhoIsBack(t *testing.T) {
	p := api.Scope{Setup: setupOf(three), Depth: 0, Crashes: 12}
	d := driving(t, p.Setup, crash(1), restart(1, lo(1)))
	crashes := func() []api.Event {
		t.Helper()
		q := p
		q.Before, q.Depth = d.script, 1
		l := expectModelMoves(t, q, nil)
		return slices.DeleteFunc(l, func(e api.Event) bool { return e.Kind != api.EventCrash })
	}
	expect := func(nodes ...int) {
		t.Helper()
		if l := crashes(); !sameEvents(l, each(crash, nodes...)) {
			t.Fatal(l)
		}
	}
	expect(1)
	d.gives(1, 0, api.KindRecovery).gives(1, 2, api.KindRecovery)
	expect(1)
	d.gives(2, 1, api.KindRecoveryResponse)
	expect(1)
	d.gives(0, 1, api.KindRecoveryResponse)
	expect(0, 1, 2)
	d.do(crash(2))
	expect()
	d.do(restart(2, lo(1)))
	expect(2)
	d.do(crash(2))
	expect()
	// One that changes the view is not away.
	d = driving(t, p.Setup).suspects(1)
	expect(0, 1, 2)
}

// A restart's draw: the least above all that the replica has had, in Before and in the script.
func TestDrawsOfRestarts(t *testing.T) {
	big := api.Draw{Hi: 3, Lo: 9}
	for _, x := range []struct {
		before, script []api.Event
		want           []api.Event
	}{
		{nil, []api.Event{crash(1)}, []api.Event{restart(1, lo(1))}},
		{[]api.Event{crash(1)}, nil, []api.Event{restart(1, lo(1))}},
		{[]api.Event{crash(1), stillborn(1, big)}, nil, []api.Event{restart(1, api.Draw{Hi: 3, Lo: 10})}},
		{nil, []api.Event{crash(1), stillborn(1, big)}, []api.Event{restart(1, api.Draw{Hi: 3, Lo: 10})}},
		// The greatest, wherever it lies, and whatever came behind it.
		{[]api.Event{crash(1), stillborn(1, big)}, []api.Event{stillborn(1, lo(5))}, []api.Event{restart(1, api.Draw{Hi: 3, Lo: 10})}},
		{[]api.Event{crash(1), stillborn(1, lo(5))}, []api.Event{stillborn(1, big)}, []api.Event{restart(1, api.Draw{Hi: 3, Lo: 10})}},
		{[]api.Event{crash(1), stillborn(1, lo(5)), stillborn(1, lo(2))}, nil, []api.Event{restart(1, lo(6))}},
		{nil, []api.Event{crash(1), stillborn(1, lo(5)), stillborn(1, lo(2)), stillborn(1, lo(5))}, []api.Event{restart(1, lo(6))}},
		{[]api.Event{crash(1), stillborn(1, lo(math.MaxUint64))}, nil, []api.Event{restart(1, api.Draw{Hi: 1})}},
		{[]api.Event{crash(1), stillborn(1, api.Draw{Hi: 1})}, []api.Event{stillborn(1, lo(math.MaxUint64))}, []api.Event{restart(1, api.Draw{Hi: 1, Lo: 1})}},
		// A restart of a replica that is alive does nothing, and is one of its Restarts.
		{[]api.Event{restart(1, lo(8)), crash(1)}, nil, []api.Event{restart(1, lo(9))}},
		{[]api.Event{crash(1)}, []api.Event{stillborn(1, lo(2)), restart(0, lo(77)), restart(2, big)}, []api.Event{restart(1, lo(3))}},
		// There is none above the greatest.
		{[]api.Event{crash(1), stillborn(1, last)}, nil, nil},
		{[]api.Event{crash(1), stillborn(1, last)}, []api.Event{stillborn(1, lo(1))}, nil},
		{[]api.Event{crash(1)}, []api.Event{stillborn(1, last)}, nil},
		{[]api.Event{restart(1, last), crash(1)}, nil, nil},
		{[]api.Event{crash(1), stillborn(1, api.Draw{Hi: math.MaxUint64, Lo: math.MaxUint64 - 1})}, nil, []api.Event{restart(1, last)}},
		// Each has its own.
		{[]api.Event{crash(1), crash(0), stillborn(0, last)}, nil, []api.Event{restart(1, lo(1))}},
		{[]api.Event{crash(1), crash(2), stillborn(1, big)}, []api.Event{stillborn(2, lo(4))}, []api.Event{restart(1, api.Draw{Hi: 3, Lo: 10}), restart(2, lo(5))}},
		{[]api.Event{crash(2), crash(0), crash(1)}, nil, []api.Event{restart(0, lo(1)), restart(1, lo(1)), restart(2, lo(1))}},
	} {
		for _, c := range []api.Config{three, unsure} {
			p := api.Scope{Setup: setupOf(c), Before: x.before, Depth: 12}
			expectMoves(t, p, x.script, x.want)
			expectModelMoves(t, p, x.script)
		}
	}
	// Alive again it is no more among them; what it sends is under way.
	p := api.Scope{Setup: setupOf(three), Depth: 12}
	expectMoves(t, p, []api.Event{crash(1), restart(1, lo(1))}, moving(deliver, 0, 1))
}

// Scripts whose fields that are not used are something all the same are like others.
func TestFieldsThatAreNotUsed(t *testing.T) {
	p := api.Scope{Setup: setupOf(three, 0), Ops: []api.Op{count, count}, Depth: 12, Ticks: 2, Crashes: 1}
	wild := api.Event{Node: 1, Client: -9, Index: -9, At: -9, Count: -9, Draw: last, Op: write(-9, "wild"), Bytes: []byte("wild")}
	for _, k := range []api.EventKind{api.EventTick, api.EventCrash} {
		wild.Kind = k
		plain := api.Event{Kind: k, Node: 1}
		if l := moves(t, p, []api.Event{plain}); !sameEvents(l, moves(t, p, []api.Event{wild})) {
			t.Fatal(k, l)
		}
		expectAlike(t, p.Setup, []api.Event{plain}, []api.Event{wild}, true)
		p.Before = []api.Event{wild}
		before := moves(t, p, nil)
		p.Before = []api.Event{plain}
		if l := moves(t, p, nil); !sameEvents(l, before) {
			t.Fatal(k, l, before)
		}
		p.Before = nil
	}
}

// A scope's Depth alone says whether there are moves; that there are ever so many is no matter.
func TestMovesOfAScopeWithoutDepth(t *testing.T) {
	p := api.Scope{Setup: setupOf(three, 0), Ops: []api.Op{count}, Ticks: 12, Drops: 12, Copies: 12, Crashes: 12, Before: []api.Event{tick(0), crash(1)}}
	expectMoves(t, p, nil)
	p.Depth = 1
	if l := moves(t, p, nil); len(l) != 1+2+2+2+2+0+1 {
		t.Fatal(l)
	}
	expectMoves(t, p, []api.Event{tick(0)})
}
