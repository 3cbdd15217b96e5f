package tally_test

import (
	"math/rand/v2"
	"reflect"
	"testing"

	"amnesia/api"
	"amnesia/tally"
)

// P2 of DOC.md: whose memory is whose.

// roomy: the votes in a list with room behind its end, and something in it; their logs too.
func (k kind[A]) roomy(l []A) []A {
	room := append(make([]A, 0, len(l)+3), l...)
	for i := range room[:len(l)] {
		if k.log != nil {
			log := *k.log(&room[i])
			*k.log(&room[i]) = append(append(make([]api.Entry, 0, len(log)+2), log...), logOf(9, 2)...)[:len(log)]
		}
	}
	return append(room, k.at(77, 78, 79)...)[:len(l)]
}

// whole: all that a list reaches, its spare room and that of the logs too.
func (k kind[A]) whole(l []A) []A {
	l = append([]A(nil), l[:cap(l)]...)
	for i := range l {
		if k.log != nil {
			log := *k.log(&l[i])
			*k.log(&l[i]) = append([]api.Entry(nil), log[:cap(log)]...)
		}
	}
	return l
}

func spoilLog(l []api.Entry) {
	for i := range l[:cap(l)] {
		l[:cap(l)][i] = api.Entry{Client: 99, Number: 99, Op: api.Op{Kind: 99, Slot: 99, Value: "spoilt"}}
	}
}

// spoil writes over all that a list reaches.
func (k kind[A]) spoil(l []A) {
	l = l[:cap(l)]
	for i := range l {
		if k.log != nil {
			spoilLog(*k.log(&l[i]))
		}
		l[i] = k.at(99)[0]
	}
}

func TestWhoseMemory(t *testing.T) {
	t.Run("acks", func(t *testing.T) { testWhoseMemory(t, acks()) })
	t.Run("marks", func(t *testing.T) { testWhoseMemory(t, marks()) })
	t.Run("ballots", func(t *testing.T) { testWhoseMemory(t, ballots()) })
	t.Run("answers", func(t *testing.T) { testWhoseMemory(t, answers()) })
}

func testWhoseMemory[A any](t *testing.T, k kind[A]) {
	r := rand.New(rand.NewPCG(8, 20))
	for range 5000 {
		l, one, v := k.roomy(k.someList(r)), k.roomy([]A{k.some(r)}), someVector(r, r.IntN(6))
		room := append(v, d1, d2)
		before, beforeOne, beforeRoom := k.whole(l), k.whole(one), append(api.Vector(nil), room...)
		for _, call := range []func() []A{
			func() []A { k.check(five, 0, l); return nil },
			func() []A { return k.put(l, one[0]) },
			func() []A { return k.prune(l, room[:len(v)]) },
		} {
			got := call()
			want := k.own(got)
			stays := func() bool {
				return reflect.DeepEqual(k.whole(l), before) && reflect.DeepEqual(k.whole(one), beforeOne) && reflect.DeepEqual(room, beforeRoom)
			}
			if !stays() {
				t.Fatal("what was given is changed")
			}
			again := call()
			k.spoil(again)
			k.spoil(append(call(), k.at(5)...))
			if !stays() || !k.same(got, want) {
				t.Fatal("an answer lies over something else")
			}
			expectApart(t, k, got)
		}
		put, pruned := k.put(l, one[0]), k.prune(l, v)
		wantPut, wantPruned := k.own(put), k.own(pruned)
		k.spoil(l)
		k.spoil(one)
		if !k.same(put, wantPut) || !k.same(pruned, wantPruned) {
			t.Fatal("an answer has turned with what was given")
		}
	}
}

// No two logs of one answer share memory: each is spoilt while the others stay.
func expectApart[A any](t *testing.T, k kind[A], l []A) {
	t.Helper()
	if k.log == nil {
		return
	}
	for i := range l {
		before := k.own(l)
		spoilLog(*k.log(&l[i]))
		for j := range l {
			if j != i && !k.same(l[j:j+1], before[j:j+1]) {
				t.Fatal("two logs of one answer share memory")
			}
		}
		copy(*k.log(&l[i]), *k.log(&before[i]))
	}
}

// Votes that were given one log among them are answered with a log each.
func TestSharedLogsAreParted(t *testing.T) {
	log := logOf(1, 6)
	var b []api.Ballot
	var a []api.Answer
	for node := range 3 {
		b = append(b, api.Ballot{Node: node, Log: log[node : node+3]})
		a = append(a, api.Answer{Node: node, Log: log[:3]})
	}
	expectApart(t, ballots(), tally.PutBallot(b, api.Ballot{Node: 3, Log: log}))
	expectApart(t, ballots(), tally.PutBallot(b, api.Ballot{Node: 1, Last: 1, Log: log}))
	expectApart(t, ballots(), tally.PruneBallots(b, nil))
	expectApart(t, answers(), tally.PutAnswer(a, api.Answer{Node: 3, Log: log}))
	expectApart(t, answers(), tally.PutAnswer(a, api.Answer{Node: 1, View: 1, Log: log}))
	expectApart(t, answers(), tally.PruneAnswers(a, nil))
	if !reflect.DeepEqual(log, logOf(1, 6)) {
		t.Error("the given log is changed")
	}
}

func TestWhoseMemoryAChoiceIs(t *testing.T) {
	r := rand.New(rand.NewPCG(8, 21))
	k := ballots()
	for range 5000 {
		own, l := k.roomy([]api.Ballot{k.some(r)}), k.roomy(k.someList(r))
		beforeOwn, before := k.whole(own), k.whole(l)
		got, e := tally.Choose(0, own[0], l)
		want := k.own([]api.Ballot{got})
		other, _ := tally.Choose(0, own[0], l)
		spoilLog(other.Log)
		if e != api.OK || !reflect.DeepEqual(k.whole(own), beforeOwn) || !reflect.DeepEqual(k.whole(l), before) || !k.same([]api.Ballot{got}, want) {
			t.Fatal("a choice lies over something else")
		}
		k.spoil(own)
		k.spoil(l)
		if !k.same([]api.Ballot{got}, want) {
			t.Fatal("a choice has turned with what was given")
		}
	}
}

func TestWhoseMemoryASettledAnswerIs(t *testing.T) {
	r := rand.New(rand.NewPCG(8, 22))
	k := answers()
	settled := 0
	for range 20000 {
		l := k.roomy(k.someList(r))
		before := k.whole(l)
		got, e := tally.Settle(1, l)
		if e == api.OK {
			settled++
		}
		want := k.own([]api.Answer{got})
		other, _ := tally.Settle(1, l)
		spoilLog(other.Log)
		if !reflect.DeepEqual(k.whole(l), before) || !k.same([]api.Answer{got}, want) {
			t.Fatal("an answer lies over something else")
		}
		k.spoil(l)
		if !k.same([]api.Answer{got}, want) {
			t.Fatal("an answer has turned with what was given")
		}
	}
	if settled < 1000 {
		t.Error("too few settled:", settled)
	}
}

func TestCountsLeaveTheirListsAlone(t *testing.T) {
	k := acks()
	l := k.roomy(placesOf(1, 8, 3, 5))
	before := k.whole(l)
	for f := -1; f < 6; f++ {
		tally.Reached(f, 4, l)
	}
	if !reflect.DeepEqual(k.whole(l), before) {
		t.Error("Reached has changed its list")
	}
	m := []api.Mark{{Node: 2}, {Node: 1, Draw: d1}}
	tally.Marked(1, m)
	if m[0] != (api.Mark{Node: 2}) || m[1] != (api.Mark{Node: 1, Draw: d1}) {
		t.Error("Marked has changed its list")
	}
}

// P3 of DOC.md: nil and empty are the same.
func TestNilAndEmpty(t *testing.T) {
	b := api.Ballot{Node: 1, Log: []api.Entry{}}
	ballots().expect(t, "empty", tally.PutBallot([]api.Ballot{}, b), tally.PutBallot(nil, api.Ballot{Node: 1})...)
	ballots().expect(t, "not longer", tally.PutBallot([]api.Ballot{{Node: 1}}, b), b)
	a := api.Answer{Node: 1, Log: []api.Entry{}}
	answers().expect(t, "empty", tally.PutAnswer([]api.Answer{}, a), tally.PutAnswer(nil, api.Answer{Node: 1})...)
	answers().expectCheck(t, "no log", five, 0, []api.Answer{a}, api.OK)
	ballots().expectCheck(t, "no log", five, 0, []api.Ballot{b}, api.OK)
}

// P1 and P5 of DOC.md: every call ends, with numbers at their ends and lists of any length.
func TestEveryCallEnds(t *testing.T) {
	t.Run("acks", func(t *testing.T) { testEveryCallEnds(t, acks()) })
	t.Run("marks", func(t *testing.T) { testEveryCallEnds(t, marks()) })
	t.Run("ballots", func(t *testing.T) { testEveryCallEnds(t, ballots()) })
	t.Run("answers", func(t *testing.T) { testEveryCallEnds(t, answers()) })
}

func (k kind[A]) wild(r *rand.Rand) A {
	return k.vote(pick(r, edges...), someDraw(r), [3]int{pick(r, edges...), pick(r, 0, 1, 257), pick(r, edges...)})
}

func testEveryCallEnds[A any](t *testing.T, k kind[A]) {
	r := rand.New(rand.NewPCG(8, 23))
	for range 3000 {
		var l []A
		for range r.IntN(9) {
			l = append(l, k.wild(r))
		}
		v, vec := k.wild(r), someVector(r, pick(r, 0, 1, 3, 7, 300))
		c, self := api.Config{F: pick(r, edges...), Room: pick(r, edges...)}, pick(r, edges...)
		k.expectCheck(t, "wild", c, self, l, k.wantCheck(c, self, l))
		k.expect(t, "wild", k.put(l, v), k.wantPut(l, v)...)
		k.expect(t, "wild", k.prune(l, vec), k.wantPrune(l, vec)...)
	}
}

func TestEveryCountEnds(t *testing.T) {
	r := rand.New(rand.NewPCG(8, 24))
	for range 3000 {
		var a []api.Ack
		var m []api.Mark
		var b []api.Ballot
		var s []api.Answer
		for range r.IntN(9) {
			a, m, b, s = append(a, acks().wild(r)), append(m, marks().wild(r)), append(b, ballots().wild(r)), append(s, answers().wild(r))
		}
		f, own := pick(r, edges...), pick(r, edges...)
		if p := tally.Reached(f, own, a); p < 0 || p > max(own, 0) {
			t.Fatalf("Reached(%d, %d, %v): %d", f, own, a, p)
		}
		if tally.Marked(f, m) != (len(m) >= f) {
			t.Fatal(f, m)
		}
		if got, e := tally.Choose(f, ballots().wild(r), b); (e == api.OK) != (len(b) >= f) || got.Commit < 0 || got.Commit > len(got.Log) {
			t.Fatalf("Choose(%d, %v): %v, %d", f, b, got, e)
		}
		if got, e := tally.Settle(f, s); e != api.OK && !answers().same([]api.Answer{got}, []api.Answer{{}}) {
			t.Fatalf("Settle(%d, %v): %v, %d", f, s, got, e)
		}
	}
}

// Long lists end too.
func TestLongLists(t *testing.T) {
	k := acks()
	var l []api.Ack
	for i := range 100000 {
		l = append(l, api.Ack{Node: i, Place: i})
	}
	if e := tally.CheckAcks(five, -1, l); e != api.ErrTally {
		t.Error(e)
	}
	v := api.Ack{Node: 50000, Draw: d1}
	if got := tally.PutAck(l, v); len(got) != len(l) || got[50000] != v {
		t.Error("Put")
	}
	k.expect(t, "Prune", tally.PruneAcks(l, make(api.Vector, 100000)), l...)
	if got := tally.Reached(1000, 200000, l); got != 99000 {
		t.Error(got)
	}
}

// Asked side by side of one list: none writes to what it was given.
func TestSideBySide(t *testing.T) {
	c := api.Config{F: 3, Room: 256}
	k := ballots()
	l := []api.Ballot{bal(1, 5, 200, 3), bal(2, 5, 256, 7), bal(4, 4, 10, 10)}
	ended := make(chan bool)
	for i := range 8 {
		go func() {
			put := tally.PutBallot(l, bal(i, 9, 3, 0))
			pruned := tally.PruneBallots(l, api.Vector{d1, d1})
			got, e := tally.Choose(3, bal(0, 1, 1, 1), l)
			ended <- tally.CheckBallots(c, 0, l) == api.OK && len(put) >= 3 && len(pruned) == 2 && e == api.OK && got.Node == 2 && got.Commit == 10
		}()
	}
	for range 8 {
		if !<-ended {
			t.Error("side by side: another answer")
		}
	}
	k.expect(t, "as it was", l, bal(1, 5, 200, 3), bal(2, 5, 256, 7), bal(4, 4, 10, 10))
}
