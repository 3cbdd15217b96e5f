package core_test

import (
	"math"
	"math/rand/v2"
	"testing"

	"amnesia/api"
	"amnesia/core"
	"amnesia/message"
	"amnesia/oplog"
)

// P9.1: Carry.

// wantCarry: the state behind, and the replies; the results are those of the whole log, played.
func wantCarry(c api.Config, s api.State, to int) (api.State, []api.Send) {
	behind := own(s)
	behind.Commit = max(s.Commit, to)
	var l []api.Send
	_, results, _ := oplog.Replay(s.Log, len(s.Log))
	for i, entry := range s.Log {
		if i >= s.Commit && i < to && s.Status == api.StatusNormal && s.Self == s.View%(2*c.F+1) {
			l = append(l, api.Send{To: 7 + entry.Client, Msg: api.Msg{Kind: api.KindReply, Node: s.Self, View: s.View, Place: i + 1, Entry: api.Entry{Client: entry.Client, Number: entry.Number}, Result: results[i]}})
		}
	}
	return behind, l
}

func expectCarry(t *testing.T, what string, c api.Config, s api.State, to int) []api.Send {
	t.Helper()
	want, wantSends := wantCarry(c, s, to)
	got, l, e := core.Carry(c, s, to)
	if e != api.OK || !sameSends(l, wantSends) {
		t.Fatalf("%s: %v %d, want %v: %+v", what, l, e, wantSends, s)
	}
	expectState(t, what, got, want)
	for _, send := range l {
		if e := message.Check(c, send.Msg); e != api.OK {
			t.Fatalf("%s: a reply that may not be: %d: %v", what, e, send)
		}
	}
	return l
}

func TestCarryExample(t *testing.T) {
	s := first(t, three, 1)
	s.Log = logOf(3)
	got, l, e := core.Carry(three, s, 2)
	if e != api.OK || len(l) != 0 || got.Commit != 2 {
		t.Error("example 4:", got, l, e)
	}
}

// What a primary's replies are, written out.
func TestCarryReplies(t *testing.T) {
	s := api.State{Self: 1, Status: api.StatusNormal, View: 4, Last: 4, Commit: 1, Vector: los(0, 3, 0), Log: []api.Entry{
		{Client: 15, Number: 4, Op: write(7, "a")},
		{Client: 0, Number: math.MaxInt, Op: write(7, "b")},
		{Client: 15, Number: 9, Op: api.Op{Kind: api.OpRead, Slot: 7}},
		{Client: 3, Number: 1, Op: api.Op{Kind: api.OpCount}},
	}}
	reply := func(place, client, number int, r api.Result) api.Send {
		return api.Send{To: 7 + client, Msg: api.Msg{Kind: api.KindReply, Node: 1, View: 4, Place: place, Entry: api.Entry{Client: client, Number: number}, Result: r}}
	}
	want := []api.Send{
		reply(2, 0, math.MaxInt, api.Result{Code: api.ResTaken, Slot: 7, Value: "a"}),
		reply(3, 15, 9, api.Result{Code: api.ResFound, Slot: 7, Value: "a"}),
		reply(4, 3, 1, api.Result{Code: api.ResCount, Slot: 1}),
	}
	for to, n := range []int{0, 0, 1, 2, 3} {
		got, l, e := core.Carry(three, s, to)
		if e != api.OK || got.Commit != max(1, to) || !sameSends(l, want[:n]) {
			t.Errorf("to %d: %v %d", to, l, e)
		}
	}
}

// A request that stands twice in the log is no log; the same operation twice, by two requests, has its result at each place.
func TestCarryOfTheSameTwice(t *testing.T) {
	s := api.State{Status: api.StatusNormal, Vector: los(0, 0, 0), Log: []api.Entry{{Client: 2, Number: 1, Op: write(7, "a")}, {Client: 2, Number: 1, Op: write(7, "a")}}}
	if got, l, e := core.Carry(three, s, 2); e != api.ErrState || len(l) > 0 || !isZero(got) {
		t.Error("a request twice:", got, l, e)
	}
	s.Log[1].Number = 2
	l := expectCarry(t, "an operation twice", three, s, 2)
	if len(l) != 2 || l[0].To != 9 || l[1].To != 9 || l[0].Msg.Result.Code != api.ResWritten || l[1].Msg.Result.Code != api.ResTaken || l[1].Msg.Entry.Number != 2 {
		t.Error(l)
	}
	s.Log[1] = api.Entry{Client: 3, Number: 1, Op: write(7, "a")}
	if l := expectCarry(t, "two clients", three, s, 2); len(l) != 2 || l[1].To != 10 || l[1].Msg.Result.Code != api.ResTaken {
		t.Error(l)
	}
}

// Every status, every commit number, to every place and one beyond each end.
func TestCarryToEveryPlace(t *testing.T) {
	for name, state := range everyState() {
		for commit := range len(state().Log) + 1 {
			s := changed(state(), func(s *api.State) { s.Commit = commit })
			for to := range len(s.Log) + 1 {
				l := expectCarry(t, name, five, s, to)
				if name != "primary" && len(l) > 0 || name == "primary" && len(l) != max(0, to-commit) {
					t.Error(name, commit, to, l)
				}
			}
			for _, to := range []int{-1, len(s.Log) + 1, math.MinInt, math.MaxInt, -len(s.Log) - 1, 1 << 32} {
				if got, l, e := core.Carry(five, s, to); e != api.ErrArg || len(l) > 0 || !isZero(got) {
					t.Error(name, commit, to, got, l, e)
				}
			}
		}
	}
	full := changed(first(t, seven, 0), func(s *api.State) { s.Log = logOf(256) })
	if l := expectCarry(t, "all at once", seven, full, 256); len(l) != 256 {
		t.Error(len(l))
	}
}

func TestCarryByItsWords(t *testing.T) {
	r := rand.New(rand.NewPCG(9, 4))
	replied := 0
	for range 20000 {
		c := pick(r, configs()...)
		s := someState(r, c)
		replied += len(expectCarry(t, "at random", c, s, r.IntN(len(s.Log)+1)))
	}
	if replied < 1000 {
		t.Error("too few replies:", replied)
	}
}

// By steps or at once: the same replies, the same state.
func TestCarryByStepsOrAtOnce(t *testing.T) {
	r := rand.New(rand.NewPCG(9, 5))
	for range 2000 {
		c := pick(r, configs()...)
		s := someState(r, c)
		to := r.IntN(len(s.Log) + 1)
		once, want, _ := core.Carry(c, s, to)
		var l []api.Send
		for place := range to + 1 {
			var some []api.Send
			s, some, _ = core.Carry(c, s, place)
			l = append(l, some...)
		}
		if !same(s, once) || !sameSends(l, want) {
			t.Fatal(l, want)
		}
	}
}
