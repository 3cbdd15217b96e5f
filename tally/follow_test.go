package tally_test

import (
	"math/bits"
	"math/rand/v2"
	"testing"

	"amnesia/api"
	"amnesia/tally"
)

// P8.9: what follows of Reached, Choose and Settle.

func TestReachedRises(t *testing.T) {
	r := rand.New(rand.NewPCG(8, 9))
	for range 20000 {
		f, own, l := r.IntN(6)-1, r.IntN(13)-2, placesOf(somePlaces(r)...)
		got := tally.Reached(f, own, l)
		if more := tally.Reached(f, own+1+r.IntN(3), l); more < got {
			t.Fatalf("own grows: %d behind %d", more, got)
		}
		if more := tally.Reached(f+1, own, l); more > got {
			t.Fatalf("f grows: %d behind %d", more, got)
		}
		a := acks().some(r)
		a.Place = r.IntN(12) - 2
		earlier := len(l) != len(acks().prune(l, vectorWith(a)))
		if more := tally.Reached(f, own, tally.PutAck(l, a)); more < got && !earlier {
			t.Fatalf("%v is put into %v: %d behind %d", a, l, more, got)
		}
	}
}

// A vector that has the ack's draw for its node, and of others nothing: what it prunes is of an earlier life of that node.
func vectorWith(a api.Ack) api.Vector {
	v := make(api.Vector, 8)
	if a.Node >= 0 {
		v[a.Node] = a.Draw
	}
	return v
}

// Of a later life an ack may take Reached back: it has lost what it had acknowledged.
func TestReachedFallsWithALaterLife(t *testing.T) {
	l := []api.Ack{{Node: 1, Draw: d1, Place: 3}}
	l = tally.PutAck(l, api.Ack{Node: 1, Draw: d2, Place: 1})
	if got := tally.Reached(1, 4, l); got != 1 {
		t.Error(got)
	}
}

func TestEveryLesserPlaceIsReached(t *testing.T) {
	r := rand.New(rand.NewPCG(8, 99))
	for range 20000 {
		f, own, l := 1+r.IntN(3), r.IntN(12), placesOf(somePlaces(r)...)
		for p := 1; p <= tally.Reached(f, own, l); p++ {
			reached := 0
			for _, a := range l {
				if a.Place >= p {
					reached++
				}
			}
			if reached < f || p > own {
				t.Fatalf("Reached(%d, %d, %v), but not place %d", f, own, l, p)
			}
		}
	}
}

func TestChosenLogIsTheLongestOfItsLast(t *testing.T) {
	r := rand.New(rand.NewPCG(8, 10))
	for range 20000 {
		own, l := someBallots(r)
		b, e := tally.Choose(0, own, l)
		if e != api.OK || b.Commit < 0 || b.Commit > len(b.Log) {
			t.Fatalf("%+v, %d", b, e)
		}
		for _, other := range append(l, own) {
			if other.Last > b.Last || other.Last == b.Last && len(other.Log) > len(b.Log) {
				t.Fatalf("%+v is chosen ahead of %+v", b, other)
			}
		}
	}
}

func TestSettledViewIsTheGreatest(t *testing.T) {
	r := rand.New(rand.NewPCG(8, 11))
	for range 20000 {
		f, l := 1+r.IntN(3), answers().someList(r)
		a, e := tally.Settle(f, l)
		if e != api.OK {
			continue
		}
		for _, other := range l {
			if other.View > a.View || len(l) < f+1 {
				t.Fatalf("%+v is settled of %+v", a, l)
			}
		}
	}
}

// P8.10: two majorities meet.

// Who has to be among a count for it to hold: over all sets of replicas, as the calls count them.
func TestTwoMajoritiesMeet(t *testing.T) {
	for f := 1; f <= api.MaxF; f++ {
		n := 2*f + 1
		for self := range n {
			sure := counted(f, self)
			settled := setsThat(n, func(set uint) bool { return isSettled(f, set) })
			if len(sure) == 0 || len(settled) == 0 {
				t.Fatal("no majority at all")
			}
			for _, a := range sure {
				for _, b := range settled {
					if a&b == 0 {
						t.Fatalf("f %d, self %d: %b and %b have none in common", f, self, a, b)
					}
				}
				for _, b := range counted(f, 0) {
					if a&b == 0 {
						t.Fatalf("f %d, self %d: %b and %b, of replica 0, have none in common", f, self, a, b)
					}
				}
			}
		}
	}
}

// setsThat: the sets of 0 to n - 1, a bit each, of which it holds.
func setsThat(n int, holds func(uint) bool) []uint {
	var l []uint
	for set := range uint(1) << n {
		if holds(set) {
			l = append(l, set)
		}
	}
	return l
}

// counted: self and others whose acks, marks or ballots, counted by self, are enough.
func counted(f, self int) []uint {
	me := uint(1) << self
	return setsThat(2*f+1, func(set uint) bool {
		if set&me == 0 {
			return false
		}
		var a []api.Ack
		var m []api.Mark
		var b []api.Ballot
		for node := range 2*f + 1 {
			if node != self && set>>node&1 == 1 {
				a = tally.PutAck(a, api.Ack{Node: node, Place: 1})
				m = tally.PutMark(m, api.Mark{Node: node})
				b = tally.PutBallot(b, api.Ballot{Node: node})
			}
		}
		_, e := tally.Choose(f, api.Ballot{Node: self}, b)
		return tally.Reached(f, 1, a) == 1 || tally.Marked(f, m) || e == api.OK
	})
}

// isSettled: do answers of these settle, whichever view they are of?
func isSettled(f int, set uint) bool {
	for view := range 2*f + 1 {
		var l []api.Answer
		for node := range 2*f + 1 {
			if set>>node&1 == 1 {
				l = tally.PutAnswer(l, api.Answer{Node: node, View: view})
			}
		}
		if _, e := tally.Settle(f, l); e == api.OK {
			return true
		}
	}
	return false
}

// The counts are no greater than they need be: f others, or f + 1 answers with the primary's, are enough.
func TestMajoritiesAreEnough(t *testing.T) {
	for f := 1; f <= api.MaxF; f++ {
		n := 2*f + 1
		for self := range n {
			want := setsThat(n, func(set uint) bool { return set>>self&1 == 1 && bits.OnesCount(set) > f })
			if got := counted(f, self); len(got) != len(want) {
				t.Errorf("f %d, self %d: %d sets are enough, want %d", f, self, len(got), len(want))
			}
		}
		want := setsThat(n, func(set uint) bool { return bits.OnesCount(set) > f })
		got := setsThat(n, func(set uint) bool { return isSettled(f, set) })
		if len(got) != len(want) {
			t.Errorf("f %d: %d sets settle, want %d", f, len(got), len(want))
		}
	}
}
