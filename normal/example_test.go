package normal_test

import (
	"testing"

	"amnesia/api"
	"amnesia/normal"
)

// The chapter's examples 1 to 9, one behind the other: F 1, Room 2, three replicas in their first lives.

var (
	w       = write(7, "a")
	written = api.Result{Code: api.ResWritten, Slot: 7, Value: "a"}
	taken   = api.Result{Code: api.ResTaken, Slot: 7, Value: "a"}
)

// behindExample3: replica 0 has (0, 1), acknowledged by 1, and carried it out.
func behindExample3(t *testing.T) api.State {
	s := first(t, three, 0)
	s.Log, s.Commit = []api.Entry{{Client: 0, Number: 1, Op: w}}, 1
	s.Acks = []api.Ack{{Node: 1, Place: 1}}
	return s
}

func TestExample1(t *testing.T) {
	entry := api.Entry{Client: 0, Number: 1, Op: w}
	m := request(0, 1, w)
	s := first(t, three, 0)
	out := api.Msg{Kind: api.KindPrepare, Entry: entry, Place: 1}
	expect(t, "at 0", three, s, m, changed(s, func(s *api.State) { s.Log = []api.Entry{entry} }), from(s, 1, out), from(s, 2, out))
	expectNothing(t, "at 1", three, first(t, three, 1), m)
	expectNothing(t, "at 2", three, first(t, three, 2), m)
}

func TestExample2(t *testing.T) {
	entry := api.Entry{Client: 0, Number: 1, Op: w}
	m := from(first(t, three, 0), 1, api.Msg{Kind: api.KindPrepare, Entry: entry, Place: 1}).Msg
	s := first(t, three, 1)
	behind := changed(s, func(s *api.State) { s.Log = []api.Entry{entry} })
	ok := from(s, 0, api.Msg{Kind: api.KindPrepareOK, Place: 1})
	expect(t, "once", three, s, m, behind, ok)
	expect(t, "again", three, behind, m, behind, ok)
}

func TestExample3(t *testing.T) {
	s := changed(behindExample3(t), func(s *api.State) { s.Commit, s.Acks = 0, nil })
	m := from(first(t, three, 1), 0, api.Msg{Kind: api.KindPrepareOK, Place: 1}).Msg
	reply := from(s, 7, api.Msg{Kind: api.KindReply, Place: 1, Entry: api.Entry{Client: 0, Number: 1}, Result: written})
	tell := api.Msg{Kind: api.KindCommit, Commit: 1}
	expect(t, "example 3", three, s, m, behindExample3(t), reply, from(s, 1, tell), from(s, 2, tell))
}

func TestExample4(t *testing.T) {
	s := behindExample3(t)
	reply := from(s, 7, api.Msg{Kind: api.KindReply, Place: 1, Entry: api.Entry{Client: 0, Number: 1}, Result: written})
	expect(t, "once more", three, s, request(0, 1, w), s, reply)
	if got, l, e := normal.Request(three, s, request(0, 0, w)); e != api.ErrField || !isZero(got) || len(l) > 0 {
		t.Error(got, l, e)
	}
}

func TestExample5(t *testing.T) {
	s := first(t, three, 2)
	m := from(first(t, three, 0), 2, api.Msg{Kind: api.KindPrepare, Entry: api.Entry{Client: 0, Number: 1, Op: w}, Place: 2}).Msg
	expect(t, "a gap", three, s, m, s, from(s, 0, getState(0)))
}

// behindExample6: two requests in a room of two.
func behindExample6(t *testing.T) api.State {
	return changed(behindExample3(t), func(s *api.State) { s.Log = append(s.Log, api.Entry{Client: 1, Number: 1, Op: w}) })
}

func TestExample6(t *testing.T) {
	s, full := behindExample3(t), behindExample6(t)
	out := api.Msg{Kind: api.KindPrepare, Entry: api.Entry{Client: 1, Number: 1, Op: w}, Place: 2, Commit: 1}
	expect(t, "the first", three, s, request(1, 1, w), full, from(s, 1, out), from(s, 2, out))
	refused := from(full, 9, api.Msg{Kind: api.KindReply, Entry: api.Entry{Client: 2, Number: 1}, Result: api.Result{Code: api.ResRefused}})
	expect(t, "the second", three, full, request(2, 1, w), full, refused)
}

func TestExample7(t *testing.T) {
	s := first(t, three, 2)
	m := from(first(t, three, 1), 2, api.Msg{Kind: api.KindCommit, View: 1}).Msg
	expect(t, "a later view", three, s, m, s, from(s, 1, getState(1)))
}

func TestExample8(t *testing.T) {
	told := func(commit int, r api.Result) api.Msg {
		return api.Msg{Kind: api.KindTold, Commit: commit, Entry: api.Entry{Client: 3, Number: 1}, Result: r}
	}
	s, p := first(t, three, 2), behindExample3(t)
	expect(t, "at 2", three, s, query(3, 1, 0, read(7)), s, from(s, 10, told(0, api.Result{Code: api.ResNone, Slot: 7})))
	expectNothing(t, "at 2, with place 1", three, s, query(3, 1, 1, read(7)))
	for place := range 2 {
		expect(t, "at 0", three, p, query(3, 1, place, read(7)), p, from(p, 10, told(1, api.Result{Code: api.ResFound, Slot: 7, Value: "a"})))
	}
}

func TestExample9(t *testing.T) {
	s := behindExample6(t)
	got, l, e := normal.Beat(three, s)
	tell := api.Msg{Kind: api.KindCommit, Commit: 1}
	out := api.Msg{Kind: api.KindPrepare, Entry: api.Entry{Client: 1, Number: 1, Op: w}, Place: 2, Commit: 1}
	if e != api.OK || !same(got, s) || !sameSends(l, []api.Send{from(s, 1, tell), from(s, 2, tell), from(s, 1, out), from(s, 2, out)}) {
		t.Error(got, l, e)
	}
}
