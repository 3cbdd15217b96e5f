package explore_test

import (
	"testing"

	"amnesia/api"
)

// The chapter's examples.

// small: the group of the examples, with one client and one request.
func small(depth int) api.Scope {
	return api.Scope{Setup: setupOf(three, 0), Ops: []api.Op{write(7, "a")}, Depth: depth}
}

var first = submit(0, write(7, "a"))

func TestNothingMayFollow(t *testing.T) {
	expectFinding(t, small(0), api.Finding{Scripts: 1, States: 1})
	expectMoves(t, small(0), nil)
}

func TestARequest(t *testing.T) {
	expectFinding(t, small(1), api.Finding{Scripts: 2, States: 2, Deepest: 1})
	expectMoves(t, small(1), nil, []api.Event{first})
	expectMoves(t, small(2), []api.Event{first}, []api.Event{deliver(0), deliver(1), deliver(2)})
	expectFinding(t, small(2), api.Finding{Scripts: 5, States: 5, Deepest: 2})
	// Behind the request at 0, four packets are under way: two requests, two Prepares. The requests come to two of them in either order: three pairs of eight scripts come to the same.
	expectFinding(t, small(3), api.Finding{Scripts: 13, States: 10, Deepest: 3})
}

func TestTwoTicks(t *testing.T) {
	p := api.Scope{Setup: setupOf(three, 0), Depth: 2, Ticks: 2}
	ticks := each(tick, 0, 1, 2)
	expectMoves(t, p, nil, ticks)
	expectMoves(t, p, []api.Event{tick(1)}, ticks)
	expectMoves(t, p, []api.Event{tick(0)}, []api.Event{deliver(0), deliver(1)}, ticks)
	// Tick 0 and Deliver: two; the pairs of ticks: six unlike ones, of nine.
	expectFinding(t, p, api.Finding{Scripts: 15, States: 12, Deepest: 2})
}

func TestOneCrash(t *testing.T) {
	p := api.Scope{Setup: setupOf(three, 0), Depth: 2, Crashes: 1}
	expectMoves(t, p, nil, each(crash, 0, 1, 2))
	expectMoves(t, p, []api.Event{crash(1)}, []api.Event{restart(1, lo(1))})
	expectFinding(t, p, api.Finding{Scripts: 7, States: 7, Deepest: 2})
}

func TestTwoWays(t *testing.T) {
	s := setupOf(three, 0)
	expectAlike(t, s, []api.Event{first, deliver(1), deliver(1)}, []api.Event{first, deliver(2), deliver(1)}, true)
	expectAlike(t, s, []api.Event{first, deliver(1), deliver(1)}, []api.Event{first, deliver(2), deliver(0)}, false)
	expectAlike(t, s, []api.Event{first, deliver(1)}, []api.Event{first, deliver(2)}, false)
}
