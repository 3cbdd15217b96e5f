package rejoin_test

import (
	"math"
	"testing"

	"amnesia/api"
	"amnesia/core"
	"amnesia/message"
	"amnesia/rejoin"
)

// P12.1: Start and Ask.

func TestStart(t *testing.T) {
	for _, c := range configs() {
		n := 2*c.F + 1
		for self := range n {
			for _, d := range []api.Draw{lo(1), lo(math.MaxUint64), {Hi: 1}, {Hi: math.MaxUint64, Lo: math.MaxUint64}} {
				want := api.State{Self: self, Status: api.StatusRecovering, Vector: make(api.Vector, n)}
				want.Vector[self] = d
				got, l, e := rejoin.Start(c, self, d)
				if e != api.OK || !same(got, want) || !sameSends(l, toAll(n, want, api.Msg{Kind: api.KindRecovery, Draw: d})) {
					t.Fatal(got, l, e)
				}
				for _, send := range l {
					checkMsg(t, c, send.Msg)
				}
			}
		}
	}
}

// Its errors are those of core.Reborn, and there is nothing beside them.
func TestStartErrors(t *testing.T) {
	expectStart := func(c api.Config, self int, d api.Draw, want api.Errno) {
		t.Helper()
		if got, l, e := rejoin.Start(c, self, d); e != want || !isZero(got) || len(l) > 0 {
			t.Errorf("%+v %+v %d, want %d", got, l, e, want)
		}
		if _, e := core.Reborn(c, self, d); e != want {
			t.Error("core says otherwise:", e)
		}
	}
	for _, c := range wrongConfigs() {
		expectStart(c, 0, lo(1), api.ErrConfig)
		expectStart(c, 9, api.Draw{}, api.ErrConfig)
	}
	for _, c := range configs() {
		for _, self := range []int{math.MinInt, -1, 2*c.F + 1, 7, math.MaxInt} {
			expectStart(c, self, lo(1), api.ErrArg)
			expectStart(c, self, api.Draw{}, api.ErrArg)
		}
		for self := range 2*c.F + 1 {
			expectStart(c, self, api.Draw{}, api.ErrArg)
		}
	}
}

func expectAsk(t *testing.T, what string, c api.Config, s api.State) {
	t.Helper()
	got, l, e := rejoin.Ask(c, s)
	if e != api.OK || !same(got, s) || !sameSends(l, toAll(2*c.F+1, s, asking(s))) {
		t.Fatalf("%s: %+v %+v %d", what, got, l, e)
	}
	for _, send := range l {
		if e := message.Check(c, send.Msg); e != api.OK {
			t.Fatalf("%s: %d: %+v", what, e, send)
		}
	}
}

func TestAsk(t *testing.T) {
	for _, c := range []api.Config{five, unguarded(five)} {
		expectAsk(t, "with answers", c, aRecovering())
		expectAsk(t, "without", c, changed(aRecovering(), func(s *api.State) { s.Answers = nil }))
	}
	s, l, e := rejoin.Start(three, 2, api.Draw{Hi: 7, Lo: 8})
	if e != api.OK {
		t.Fatal(e)
	}
	for range 3 { // tick by tick the same
		got, again, e := rejoin.Ask(three, s)
		if e != api.OK || !same(got, s) || !sameSends(again, l) {
			t.Fatal(got, again, e)
		}
		s = got
	}
	// What it has learnt meanwhile goes out with it, and its draw stays its own.
	s, _ = do(t, three, s, api.Msg{Kind: api.KindRecoveryResponse, Node: 1, Draw: lo(3), Vector: los(0, 4, 0)})
	expectAsk(t, "learnt", three, s)
	if s.Vector[1] != lo(4) || s.Vector[2] != (api.Draw{Hi: 7, Lo: 8}) {
		t.Error(s)
	}
}

func TestAskOfOthers(t *testing.T) {
	for name, state := range everyState() {
		if name == "recovering" {
			continue
		}
		for _, c := range []api.Config{five, unguarded(five)} {
			if got, l, e := rejoin.Ask(c, state()); e != api.ErrStatus || !isZero(got) || len(l) > 0 {
				t.Error(name, got, l, e)
			}
		}
	}
	if _, _, e := rejoin.Ask(three, first(t, three, 0)); e != api.ErrStatus {
		t.Error(e)
	}
}
