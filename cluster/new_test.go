package cluster_test

import (
	"math"
	"testing"

	"amnesia/api"
	"amnesia/cluster"
	"amnesia/core"
)

// New, Bound, and a Cluster that no call made.

func TestNew(t *testing.T) {
	for _, c := range configs() {
		for _, numbers := range [][]int{nil, {0}, {5}, {math.MaxInt}, {0, 1, math.MaxInt}, make([]int, 16)} {
			u := made(t, setupOf(c, numbers...))
			if len(u.Pool()) != 0 || u.Events() != 0 {
				t.Error(u.Pool(), u.Events())
			}
			for node := range 2*c.F + 1 {
				want, _ := core.First(c, node)
				if s, on := u.Look(node); !on || !sameState(s, want) {
					t.Error(node, on, s)
				}
			}
			for client, n := range numbers {
				if l, is := u.Client(client); !is || l != (api.ClientLook{Number: n}) {
					t.Error(client, is, l)
				}
			}
			for _, k := range append([]int{2*c.F + 1, 2*c.F + 2}, farNumbers...) {
				if s, on := u.Look(k); on || !sameState(s, api.State{}) {
					t.Error(k, on, s)
				}
			}
			for _, k := range append([]int{len(numbers), len(numbers) + 1}, farNumbers...) {
				if l, is := u.Client(k); is || l != (api.ClientLook{}) {
					t.Error(k, is, l)
				}
			}
		}
	}
}

// wrongClients: setups whose group may be, each wrong for one reason.
func wrongClients() []api.Setup {
	return []api.Setup{
		setupOf(three, make([]int, 17)...), setupOf(three, make([]int, 100)...),
		setupOf(three, -1), setupOf(three, math.MinInt), // one more than the greatest int is the least
		setupOf(five, 0, 1, -1), setupOf(five, -1, 1, 2), setupOf(seven, append(make([]int, 15), -7)...),
	}
}

func expectNone(t *testing.T, setup api.Setup, want api.Errno) {
	t.Helper()
	if u, e := cluster.New(setup); u != nil || e != want {
		t.Errorf("%d, want %d: %+v", e, want, setup)
	}
	if rows, at, e := cluster.Run(setup, []api.Event{rounds(1)}); len(rows) != 0 || at != -1 || e != want {
		t.Errorf("%d, %d, want %d: %+v", at, e, want, rows)
	}
}

func TestNewRefuses(t *testing.T) {
	for _, setup := range wrongClients() {
		expectNone(t, setup, api.ErrSetup)
	}
	// A configuration is looked at first.
	for _, c := range wrongConfigs() {
		for _, setup := range append(wrongClients(), setupOf(c), setupOf(c, 0, 7)) {
			setup.Config = c
			expectNone(t, setup, api.ErrConfig)
		}
	}
}

func TestBound(t *testing.T) {
	for f := 1; f <= 3; f++ {
		for patience := 6; patience <= 100; patience++ {
			for _, c := range []api.Config{{F: f, Room: 1, Patience: patience}, {F: f, Room: 256, Patience: patience, Unguarded: true}} {
				if got, want := cluster.Bound(c), 8*(f+2)*(patience+8); got != want {
					t.Error(c, got, want)
				}
			}
		}
	}
	if a, b := cluster.Bound(three), cluster.Bound(seven); a != 336 || b != 4320 {
		t.Error(a, b)
	}
	for _, c := range wrongConfigs() {
		if got := cluster.Bound(c); got != 0 {
			t.Error(c, got)
		}
	}
}

func TestNoCallMade(t *testing.T) {
	for what, u := range map[string]*cluster.Cluster{"nil": nil, "zero": {}} {
		for k := api.EventKind(-1); k < 15; k++ {
			if rows, e := u.Do(api.Event{Kind: k, Index: -1, Count: 1, Draw: lo(1), Op: count}); len(rows) != 0 || e != api.ErrMade {
				t.Error(what, k, rows, e)
			}
		}
		for _, k := range append([]int{0, 1, 2}, farNumbers...) {
			if s, on := u.Look(k); on || !sameState(s, api.State{}) {
				t.Error(what, k, s)
			}
			if l, is := u.Client(k); is || l != (api.ClientLook{}) {
				t.Error(what, k, l)
			}
		}
		if len(u.Pool()) != 0 || u.Events() != 0 {
			t.Error(what, u.Pool(), u.Events())
		}
	}
}
