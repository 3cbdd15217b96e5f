package change_test

import (
	"testing"

	"amnesia/api"
	"amnesia/change"
)

// The chapter's examples 1 to 5: F 1, three replicas; and the whole change that 1 to 3 are, played to its end.

func TestExample1(t *testing.T) {
	s := first(t, three, 1)
	got, l, e := change.Suspect(three, s)
	want := changed(s, func(s *api.State) { s.Status, s.View = api.StatusChange, 1 })
	if e != api.OK || !same(got, want) || !sameSends(l, []api.Send{from(s, 0, calling(1)), from(s, 2, calling(1))}) {
		t.Error(got, l, e)
	}
}

// hasHeard: replica 2 behind example 2.
func hasHeard(t *testing.T) api.State {
	return changed(first(t, three, 2), func(s *api.State) {
		s.Status, s.View, s.Marks = api.StatusChange, 1, []api.Mark{{Node: 1}}
	})
}

func TestExample2(t *testing.T) {
	s, want := first(t, three, 2), hasHeard(t)
	m := from(first(t, three, 1), 2, calling(1)).Msg
	expect(t, "example 2", three, s, m, want, from(s, 0, calling(1)), from(s, 1, calling(1)), from(s, 1, ballotOf(want)))
}

func TestExample3(t *testing.T) {
	m := from(hasHeard(t), 1, ballotOf(hasHeard(t))).Msg
	s := changed(first(t, three, 1), func(s *api.State) { s.Status, s.View = api.StatusChange, 1 })
	want := changed(first(t, three, 1), func(s *api.State) { s.View, s.Last = 1, 1 })
	expect(t, "example 3", three, s, m, want, from(s, 0, starting(1, 0, nil)), from(s, 2, starting(1, 0, nil)))
}

func TestExample4(t *testing.T) {
	s := changed(first(t, three, 0), func(s *api.State) { s.View, s.Last = 1, 1 })
	for node := 1; node < 3; node++ {
		expectNothing(t, "example 4", three, s, from(first(t, three, node), 0, calling(1)).Msg)
	}
}

func TestExample5(t *testing.T) {
	c := roomOf(three, 6)
	s := changed(first(t, c, 1), func(s *api.State) {
		s.Status, s.View, s.Last, s.Log = api.StatusChange, 4, 2, logOf(5)
	})
	two := []api.Entry{{Client: 9, Number: 1, Op: count}, {Client: 9, Number: 2, Op: count}}
	m := from(first(t, c, 2), 1, api.Msg{Kind: api.KindDoViewChange, View: 4, Last: 3, Log: two}).Msg
	want := changed(first(t, c, 1), func(s *api.State) { s.View, s.Last, s.Log = 4, 4, two })
	expect(t, "example 5", c, s, m, want, from(s, 0, starting(4, 0, two)), from(s, 2, starting(4, 0, two)))
}

// A whole view change, message by message: replica 2 has an entry that nobody carried out, 0 is behind.
func TestAWholeChange(t *testing.T) {
	entry := api.Entry{Client: 3, Number: 5, Op: write(7, "a")}
	zero, one, two := first(t, three, 0), first(t, three, 1), first(t, three, 2)
	two.Log = []api.Entry{entry}

	one, l, e := change.Suspect(three, one)
	if e != api.OK || len(l) != 2 {
		t.Fatal(l, e)
	}
	two, l = do(t, three, two, l[1].Msg)
	if len(l) != 3 || l[2].To != 1 {
		t.Fatal(l)
	}
	called, ballot := l[1].Msg, l[2].Msg
	one, l = do(t, three, one, called) // its own ballot, with F marks, goes nowhere
	if len(l) != 0 || len(one.Marks) != 1 || one.Status != api.StatusChange {
		t.Fatal(one, l)
	}
	one, l = do(t, three, one, ballot)
	if one.Status != api.StatusNormal || len(one.Log) != 1 || len(l) != 2 || l[0].To != 0 || l[1].To != 2 {
		t.Fatal(one, l)
	}
	began := l[0].Msg
	for self, s := range map[int]api.State{0: zero, 2: two} {
		want := changed(first(t, three, self), func(s *api.State) { s.View, s.Last, s.Log = 1, 1, []api.Entry{entry} })
		expect(t, "the end", three, s, began, want, from(s, 1, api.Msg{Kind: api.KindPrepareOK, View: 1, Place: 1}))
		expectNothing(t, "again", three, want, began)
		expectNothing(t, "a call that comes late", three, want, changedMsg(called, func(m *api.Msg) { m.Node = 1 }))
	}
	expectNothing(t, "the ballot again", three, one, ballot)
	expectNothing(t, "the call again", three, one, called)
}
