package normal_test

import (
	"testing"

	"amnesia/api"
	"amnesia/normal"
)

// P10.5: Beat. aPrimary has five entries, of which two are carried out.

func expectBeat(t *testing.T, what string, c api.Config, s api.State, want ...api.Send) {
	t.Helper()
	got, l, e := normal.Beat(c, s)
	if e != api.OK || !same(got, s) || !sameSends(l, want) {
		t.Fatalf("%s: %+v %d, want %+v", what, l, e, want)
	}
}

// told: Commit to all others, then the entries at these places: node and place.
func told(s api.State, prepared ...[2]int) []api.Send {
	l := toAll(5, s, api.Msg{Kind: api.KindCommit, View: s.View, Commit: s.Commit})
	for _, p := range prepared {
		l = append(l, from(s, p[0], api.Msg{Kind: api.KindPrepare, View: s.View, Entry: s.Log[p[1]-1], Place: p[1], Commit: s.Commit}))
	}
	return l
}

func TestBeatByAcknowledgements(t *testing.T) {
	s := counted(2)
	expectBeat(t, "of none", five, s, told(s, [2]int{0, 3}, [2]int{0, 4}, [2]int{0, 5}, [2]int{2, 3}, [2]int{2, 4}, [2]int{2, 5}, [2]int{3, 3}, [2]int{3, 4}, [2]int{3, 5}, [2]int{4, 3}, [2]int{4, 4}, [2]int{4, 5})...)
	s = counted(2, [2]int{0, 1}, [2]int{2, 4}, [2]int{4, 5}) // less than what is committed, some, all
	expectBeat(t, "of some", five, s, told(s, [2]int{0, 3}, [2]int{0, 4}, [2]int{0, 5}, [2]int{2, 5}, [2]int{3, 3}, [2]int{3, 4}, [2]int{3, 5})...)
	s = counted(2, [2]int{0, 5}, [2]int{2, 5}, [2]int{3, 5}, [2]int{4, 5})
	expectBeat(t, "of all", five, s, told(s)...)
	s = counted(2, [2]int{0, 2}, [2]int{2, 3}, [2]int{3, 5}, [2]int{4, 5})
	expectBeat(t, "at what is committed", five, s, told(s, [2]int{0, 3}, [2]int{0, 4}, [2]int{0, 5}, [2]int{2, 4}, [2]int{2, 5})...)
	s = counted(0, [2]int{2, 4}, [2]int{3, 5})
	expectBeat(t, "nothing is committed", five, s, told(s, [2]int{0, 1}, [2]int{0, 2}, [2]int{0, 3}, [2]int{0, 4}, [2]int{0, 5}, [2]int{2, 5}, [2]int{4, 1}, [2]int{4, 2}, [2]int{4, 3}, [2]int{4, 4}, [2]int{4, 5})...)
	s = counted(5)
	expectBeat(t, "all is committed", five, s, told(s)...)
	s = changed(s, func(s *api.State) { s.Log, s.Commit = nil, 0 })
	expectBeat(t, "an empty log", five, s, told(s)...)
}

// A full log of the greatest room, in the greatest group.
func TestBeatOfAFullLog(t *testing.T) {
	s := first(t, seven, 0)
	s.Log = logOf(256)
	s.Acks = []api.Ack{{Node: 1, Place: 256}, {Node: 6, Place: 255}}
	got, l, e := normal.Beat(seven, s)
	if e != api.OK || !same(got, s) || len(l) != 6+4*256+1 {
		t.Fatal(len(l), e)
	}
	if last := l[len(l)-1]; last.To != 6 || last.Msg.Place != 256 || last.Msg.Entry != s.Log[255] {
		t.Error(last)
	}
}

func TestBeatOfOthers(t *testing.T) {
	for name, state := range everyState() {
		got, l, e := normal.Beat(five, state())
		if name == "primary" {
			if e != api.OK {
				t.Error(name, e)
			}
		} else if e != api.ErrStatus || !isZero(got) || len(l) > 0 {
			t.Error(name, got, l, e)
		}
	}
	for view := range 7 {
		for self := range 5 {
			s := api.State{Self: self, Status: api.StatusNormal, View: view, Last: view, Vector: los(0, 0, 0, 0, 0)}
			if _, l, e := normal.Beat(five, s); (view%5 == self) != (e == api.OK) || (view%5 == self) != (len(l) == 4) {
				t.Error(view, self, l, e)
			}
		}
	}
}

// However often it beats, it tells the same.
func TestBeatAgain(t *testing.T) {
	s := aPrimary()
	once, l, _ := normal.Beat(five, s)
	again, k, _ := normal.Beat(five, once)
	if !same(again, s) || !sameSends(l, k) {
		t.Error(l, k)
	}
}
