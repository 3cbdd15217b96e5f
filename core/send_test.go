package core_test

import (
	"math"
	"math/rand/v2"
	"testing"

	"amnesia/api"
	"amnesia/core"
)

// P9.1: One and All.

// A message with something in every field, which no kind has.
func fullMsg(k api.Kind) api.Msg {
	return api.Msg{
		Kind: k, Node: 99, View: -7, Entry: api.Entry{Client: 77, Number: -3, Op: api.Op{Kind: 9, Slot: -4, Value: "e"}},
		Result: api.Result{Code: 88, Slot: 4096, Value: "r"}, Place: -1, Commit: 1 << 40, Last: math.MinInt, Draw: api.Draw{Hi: 3, Lo: 4},
		Log: []api.Entry{{Client: -1}, {}}, Vector: los(6, 5),
	}
}

func wantOne(s api.State, to int, m api.Msg) api.Send {
	m.Node = s.Self
	if m.Kind >= 1 && m.Kind <= 14 && !isClients(m.Kind) {
		m.Vector = s.Vector
	}
	return ownSend(api.Send{To: to, Msg: m})
}

func kindsAndOthers() []api.Kind {
	return append(allKinds(), 0, -1, 15, 16, math.MinInt, math.MaxInt)
}

func TestOneToEveryAddress(t *testing.T) {
	for _, c := range configs() {
		n := 2*c.F + 1
		for self := range n {
			s := first(t, c, self)
			s.Vector[0], s.Vector[n-1] = lo(8), api.Draw{Hi: 9}
			for to := -3; to < 30; to++ {
				for _, k := range kindsAndOthers() {
					m := fullMsg(k)
					got, e := core.One(c, s, to, m)
					if to >= 0 && to < n && to != self || to >= 7 && to < 23 {
						if want := wantOne(s, to, m); e != api.OK || !sameSends([]api.Send{got}, []api.Send{want}) {
							t.Fatalf("to %d of %d: %+v %d, want %+v", to, n, got, e, want)
						}
					} else if e != api.ErrArg || !isZero(got) {
						t.Fatalf("to %d of %d: %+v %d", to, n, got, e)
					}
				}
			}
			for _, to := range []int{math.MinInt, math.MaxInt, 1 << 32, -1 << 32} {
				if got, e := core.One(c, s, to, fullMsg(api.KindCommit)); e != api.ErrArg || !isZero(got) {
					t.Error(to, got, e)
				}
			}
		}
	}
}

func TestAllOthers(t *testing.T) {
	for _, c := range configs() {
		n := 2*c.F + 1
		for self := range n {
			s := first(t, c, self)
			s.Vector[0], s.Vector[n-1] = lo(8), api.Draw{Hi: 9}
			for _, k := range kindsAndOthers() {
				m := fullMsg(k)
				got, e := core.All(c, s, m)
				var want []api.Send
				for to := range n {
					if to != self {
						want = append(want, wantOne(s, to, m))
					}
				}
				if e != api.OK || !sameSends(got, want) {
					t.Fatalf("%+v %d, want %+v", got, e, want)
				}
			}
		}
	}
}

// Every status sends alike, and All is One to each.
func TestOneAndAllOfEveryState(t *testing.T) {
	r := rand.New(rand.NewPCG(9, 6))
	for range 3000 {
		c := pick(r, configs()...)
		s, m := someState(r, c), someMsg(r, c)
		if r.IntN(3) == 0 {
			m = fullMsg(pick(r, kindsAndOthers()...))
		}
		all, e := core.All(c, s, m)
		if e != api.OK || len(all) != 2*c.F {
			t.Fatal(all, e)
		}
		for _, send := range all {
			one, e := core.One(c, s, send.To, m)
			if e != api.OK || !sameSends([]api.Send{one}, []api.Send{send}) || !sameSends([]api.Send{one}, []api.Send{wantOne(s, send.To, m)}) {
				t.Fatal(one, send, e)
			}
		}
	}
}

// Errors in their order: the configuration, the state, the address.
func TestErrorsOfOne(t *testing.T) {
	for _, to := range []int{0, -1, 5, 23} {
		for _, c := range wrongConfigs() {
			if got, e := core.One(c, api.State{}, to, api.Msg{}); e != api.ErrConfig || !isZero(got) {
				t.Error(c, to, got, e)
			}
		}
		no := changed(aBackup(), func(s *api.State) { s.Commit = 9 })
		if got, e := core.One(five, no, to, api.Msg{}); e != api.ErrState || !isZero(got) {
			t.Error(to, got, e)
		}
	}
	for _, to := range []int{2, -1, 5, 6, 23} { // 2 is itself
		if got, e := core.One(five, aBackup(), to, api.Msg{}); e != api.ErrArg || !isZero(got) {
			t.Error(to, got, e)
		}
	}
}
