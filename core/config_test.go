package core_test

import (
	"math"
	"testing"

	"amnesia/api"
	"amnesia/core"
)

// P9.1: configurations, and the states that lives begin with.

func TestCheckConfig(t *testing.T) {
	for _, c := range []api.Config{
		{F: 1, Room: 1, Patience: 6}, {F: 3, Room: 256, Patience: 100}, {F: 1, Room: 256, Patience: 6}, {F: 3, Room: 1, Patience: 100},
		{F: 2, Room: 128, Patience: 50}, {F: 2, Room: 2, Patience: 7, Unguarded: true}, {F: 1, Room: 255, Patience: 99},
	} {
		if e := core.CheckConfig(c); e != api.OK {
			t.Error(c, e)
		}
	}
	for _, c := range wrongConfigs() {
		if e := core.CheckConfig(c); e != api.ErrConfig {
			t.Error(c, e)
		}
	}
	for _, f := range edges {
		for _, room := range edges {
			for _, patience := range edges {
				for _, open := range []bool{false, true} {
					c := api.Config{F: f, Room: room, Patience: patience, Unguarded: open}
					if e := core.CheckConfig(c); (e == api.OK) != configMayBe(c) || e != api.OK && e != api.ErrConfig {
						t.Fatal(c, e)
					}
				}
			}
		}
	}
}

func TestNodes(t *testing.T) {
	for f, want := range []int{0, 3, 5, 7, 0} {
		if n := core.Nodes(api.Config{F: f, Room: 4, Patience: 6}); n != want {
			t.Error(f, n)
		}
	}
	for _, c := range wrongConfigs() {
		if n := core.Nodes(c); n != 0 {
			t.Error(c, n)
		}
	}
}

func TestPrimary(t *testing.T) {
	for _, c := range configs() {
		n := 2*c.F + 1
		for view := range 30 {
			if p := core.Primary(c, view); p != view%n {
				t.Error(c, view, p)
			}
		}
		for _, view := range []int{-1, -n, 1<<32 + 1, math.MinInt, math.MaxInt} {
			if p := core.Primary(c, view); p != -1 {
				t.Error(c, view, p)
			}
		}
	}
	for _, w := range []struct{ f, view, want int }{
		{1, 4, 1}, {1, 1 << 32, 1}, {2, 1 << 32, 1}, {3, 1 << 32, 4}, {3, 1<<32 - 1, 3}, {1, 0, 0}, {3, 6, 6}, {3, 7, 0},
	} {
		if p := core.Primary(api.Config{F: w.f, Room: 4, Patience: 6}, w.view); p != w.want {
			t.Error(w, p)
		}
	}
	for _, c := range wrongConfigs() {
		for _, view := range []int{0, 1, -1, 1 << 32, math.MaxInt} {
			if p := core.Primary(c, view); p != -1 {
				t.Error(c, view, p)
			}
		}
	}
}

func TestFirst(t *testing.T) {
	for _, c := range configs() {
		n := 2*c.F + 1
		for self := range n {
			s, e := core.First(c, self)
			want := api.State{Self: self, Status: api.StatusNormal, Vector: make(api.Vector, n)}
			if e != api.OK || core.Check(c, s) != api.OK {
				t.Error(c, self, e)
			}
			expectState(t, "first", s, want)
		}
		for _, self := range []int{-1, n, math.MinInt, math.MaxInt} {
			if s, e := core.First(c, self); e != api.ErrArg || !isZero(s) {
				t.Error(c, self, s, e)
			}
		}
	}
	for _, c := range wrongConfigs() {
		for _, self := range []int{0, -1, 9} {
			if s, e := core.First(c, self); e != api.ErrConfig || !isZero(s) {
				t.Error(c, self, s, e)
			}
		}
	}
}

func TestReborn(t *testing.T) {
	draws := []api.Draw{lo(1), {Hi: 1}, {Hi: math.MaxUint64, Lo: math.MaxUint64}}
	for _, c := range configs() {
		n := 2*c.F + 1
		for self := range n {
			for _, draw := range draws {
				s, e := core.Reborn(c, self, draw)
				want := api.State{Self: self, Status: api.StatusRecovering, Vector: make(api.Vector, n)}
				want.Vector[self] = draw
				if e != api.OK || core.Check(c, s) != api.OK {
					t.Error(c, self, draw, e)
				}
				expectState(t, "reborn", s, want)
			}
			if s, e := core.Reborn(c, self, api.Draw{}); e != api.ErrArg || !isZero(s) {
				t.Error("without a draw:", c, self, s, e)
			}
		}
		for _, self := range []int{-1, n, math.MinInt, math.MaxInt} {
			for _, draw := range append(draws, api.Draw{}) {
				if s, e := core.Reborn(c, self, draw); e != api.ErrArg || !isZero(s) {
					t.Error(c, self, s, e)
				}
			}
		}
	}
	for _, c := range wrongConfigs() {
		for _, self := range []int{0, -1, 9} {
			for _, draw := range append(draws, api.Draw{}) {
				if s, e := core.Reborn(c, self, draw); e != api.ErrConfig || !isZero(s) {
					t.Error(c, self, s, e)
				}
			}
		}
	}
}
