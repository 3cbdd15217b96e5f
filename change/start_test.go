package change_test

import (
	"testing"

	"amnesia/api"
)

// P11.1: Start, StartViewChange. aChangingBackup is replica 2, changing to view 6, last normal in view 4; F is 2.

func TestStartOfAViewBelow(t *testing.T) {
	for name, state := range everyState() {
		for view := 1; view < 6; view++ {
			expectNothing(t, name, five, state(), start(0, view))
			expectNothing(t, name, unguarded(five), state(), start(0, view))
		}
	}
}

func TestStartOfAViewThatHasBegun(t *testing.T) {
	for node := range 5 {
		expectNothing(t, "backup", five, aBackup(), start(node, 6))
		expectNothing(t, "primary", five, aPrimary(), start(node, 6))
	}
}

func TestStartPutsTheMark(t *testing.T) {
	for _, c := range []api.Config{five, unguarded(five)} {
		none := marked(aChangingBackup())
		for _, node := range []int{0, 1, 3, 4} {
			expect(t, "the first", c, none, start(node, 6), marked(none, node))
			expectNothing(t, "it is there already", c, marked(none, node), start(node, 6))
		}
		ballot := from(none, 1, ballotOf(none))
		expect(t, "F now, behind", c, marked(none, 0), start(4, 6), marked(none, 0, 4), ballot)
		expect(t, "F now, ahead", c, marked(none, 4), start(0, 6), marked(none, 0, 4), ballot)
		expect(t, "F now, by the primary", c, marked(none, 0), start(1, 6), marked(none, 0, 1), ballot)
		expectNothing(t, "F, and it is there already", c, marked(none, 0, 4), start(4, 6))
		expectNothing(t, "F, and it is there already", c, marked(none, 0, 4), start(0, 6))
		expect(t, "more than F", c, marked(none, 0, 4), start(3, 6), marked(none, 0, 3, 4))
		expect(t, "more than F", c, marked(none, 0, 3, 4), start(1, 6), marked(none, 0, 1, 3, 4))
		expectNothing(t, "all", c, marked(none, 0, 1, 3, 4), start(1, 6))
	}
}

// The primary of the view counts marks too, but has nobody to send its ballot to.
func TestStartAtThePrimaryOfTheView(t *testing.T) {
	s := aNextPrimary()
	expect(t, "the first", five, marked(s), start(3, 6), marked(s, 3))
	expect(t, "F now", five, marked(s, 3), start(0, 6), marked(s, 0, 3))
	expect(t, "more", five, marked(s, 0, 3), start(2, 6), marked(s, 0, 2, 3))
	expectNothing(t, "again", five, s, start(2, 6))
}

func TestStartOfAViewAbove(t *testing.T) {
	for name, state := range everyState() {
		if name == "recovering" {
			continue
		}
		s := state()
		for _, view := range []int{7, 8, 9, 10, 11, 1<<32 - 1, 1 << 32} {
			for _, node := range []int{0, 3, 4} {
				expect(t, name, five, s, start(node, view), marked(gone(s, view), node), toAll(5, s, calling(view))...)
			}
		}
	}
}

// With F 1 the first mark is enough.
func TestStartOfAViewAboveWithOneMark(t *testing.T) {
	s := changed(first(t, three, 2), func(s *api.State) { s.Log, s.Commit, s.Idle = logOf(3), 2, 4 })
	for view := 1; view < 9; view++ {
		m := from(first(t, three, 0), 2, calling(view)).Msg
		want := marked(gone(s, view), 0)
		if view%3 == 2 {
			expect(t, "the primary of it", three, s, m, want, toAll(3, s, calling(view))...)
			continue
		}
		expect(t, "another", three, s, m, want, append(toAll(3, s, calling(view)), from(s, view%3, ballotOf(want)))...)
	}
}

// Marks of lives that are over are not counted: what was enough has to be enough once more.
func TestStartOfLivesThatAreOver(t *testing.T) {
	s := marked(aChangingBackup(), 0, 4)
	m := changedMsg(start(4, 6), func(m *api.Msg) { m.Vector[4] = lo(3) }) // a later life of 4, which is no voter any more by its old mark
	learnt := changed(s, func(s *api.State) { s.Vector[4] = lo(3) })
	expect(t, "its own earlier mark", five, s, m, marked(learnt, 0, 4), from(learnt, 1, ballotOf(learnt)))
	m = changedMsg(start(3, 6), func(m *api.Msg) { m.Vector[4] = lo(3) })
	expect(t, "another's mark", five, s, m, marked(learnt, 0, 3), from(learnt, 1, ballotOf(learnt)))
	m = changedMsg(start(0, 6), func(m *api.Msg) { m.Vector[4] = lo(3) })
	expect(t, "fewer than before", five, s, m, marked(learnt, 0))
}

// The mark has the draw that the replica's own crash vector has, the message's where that is looked at.
func TestStartWithWhichDraw(t *testing.T) {
	none := marked(aChangingBackup())
	m := changedMsg(start(3, 6), func(m *api.Msg) { m.Vector[3] = lo(12) })
	expect(t, "guarded", five, none, m, changed(none, func(s *api.State) {
		s.Vector[3], s.Marks = lo(12), []api.Mark{{Node: 3, Draw: lo(12)}}
	}))
	expect(t, "unguarded", unguarded(five), none, m, marked(none, 3))
	m = changedMsg(start(3, 6), func(m *api.Msg) { m.Vector[3] = lo(1) })
	expect(t, "unguarded, of a life that is over", unguarded(five), none, m, marked(none, 3))
}
