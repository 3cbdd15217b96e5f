package message_test

import (
	"math"
	"math/rand/v2"
	"slices"
	"testing"

	"amnesia/api"
	"amnesia/message"
)

// P7.1: Alike.

func expectAlike(t *testing.T, a, b api.Msg, want bool) {
	t.Helper()
	if message.Alike(a, b) != want || message.Alike(b, a) != want {
		t.Fatalf("Alike(%+v, %+v) is not %v both ways", a, b, want)
	}
}

// A message with something in every field; no kind has it so, but Alike takes any.
func everything() api.Msg {
	m := api.Msg{Kind: api.KindPrepare, Node: 1, View: 2, Last: 3, Place: 4, Commit: 5, Draw: api.Draw{Hi: 6, Lo: 7}}
	m.Entry = entry(8, 9, api.Op{Kind: 10, Slot: 11, Value: "l"})
	m.Result = res(13, 14, "o")
	m.Log = []api.Entry{entry(1, 2, write(3, "d")), entry(5, 6, write(7, "h"))}
	m.Vector = api.Vector{{Hi: 1, Lo: 2}, {Hi: 3, Lo: 4}, {}}
	return m
}

// Of each field one change.
func changes() []func(*api.Msg) {
	return []func(*api.Msg){
		func(m *api.Msg) { m.Kind++ }, func(m *api.Msg) { m.Node++ }, func(m *api.Msg) { m.View++ }, func(m *api.Msg) { m.Last++ },
		func(m *api.Msg) { m.Place++ }, func(m *api.Msg) { m.Commit++ }, func(m *api.Msg) { m.Draw.Hi++ }, func(m *api.Msg) { m.Draw.Lo++ },
		func(m *api.Msg) { m.Entry.Client++ }, func(m *api.Msg) { m.Entry.Number++ }, func(m *api.Msg) { m.Entry.Op.Kind++ },
		func(m *api.Msg) { m.Entry.Op.Slot++ }, func(m *api.Msg) { m.Entry.Op.Value += "v" }, func(m *api.Msg) { m.Result.Code++ },
		func(m *api.Msg) { m.Result.Slot++ }, func(m *api.Msg) { m.Result.Value += "v" },
		func(m *api.Msg) { m.Log = nil }, func(m *api.Msg) { m.Log = m.Log[:1] }, func(m *api.Msg) { m.Log = m.Log[1:] },
		func(m *api.Msg) { m.Log = append(m.Log, api.Entry{}) }, func(m *api.Msg) { m.Log[1].Client++ }, func(m *api.Msg) { m.Log[0].Number++ },
		func(m *api.Msg) { m.Log[1].Op.Kind++ }, func(m *api.Msg) { m.Log[0].Op.Slot++ }, func(m *api.Msg) { m.Log[1].Op.Value = "" },
		func(m *api.Msg) { slices.Reverse(m.Log) }, func(m *api.Msg) { slices.Reverse(m.Vector) },
		func(m *api.Msg) { m.Vector = nil }, func(m *api.Msg) { m.Vector = m.Vector[:2] }, func(m *api.Msg) { m.Vector = append(m.Vector, api.Draw{}) },
		func(m *api.Msg) { m.Vector[0].Hi++ }, func(m *api.Msg) { m.Vector[2].Lo++ },
	}
}

func TestAlikeFieldByField(t *testing.T) {
	expectAlike(t, everything(), everything(), true)
	for i, change := range changes() {
		a, b := everything(), everything()
		change(&a)
		expectAlike(t, a, b, false)
		change(&b)
		expectAlike(t, a, b, true)
		for j, other := range changes() {
			c := everything()
			other(&c)
			if i != j {
				expectAlike(t, a, c, same(a, c))
			}
		}
	}
}

// P3: nil and empty lists are one; an empty list and one of a zero entry are two.
func TestAlikeNilAndEmpty(t *testing.T) {
	logs := [][]api.Entry{nil, {}, make([]api.Entry, 0, 9)}
	vectors := []api.Vector{nil, {}, make(api.Vector, 0, 9)}
	for _, k := range append(allKinds(), 0, 99) {
		for _, log := range logs {
			for _, vector := range vectors {
				expectAlike(t, api.Msg{Kind: k}, api.Msg{Kind: k, Log: log, Vector: vector}, true)
				expectAlike(t, api.Msg{Kind: k, Log: log}, api.Msg{Kind: k, Vector: vector}, true)
				expectAlike(t, api.Msg{Kind: k, Log: log}, api.Msg{Kind: k, Log: make([]api.Entry, 1)}, false)
				expectAlike(t, api.Msg{Kind: k, Vector: vector}, api.Msg{Kind: k, Vector: make(api.Vector, 1)}, false)
			}
		}
	}
}

// What lies behind a list's end, and where a list lies, is not looked at.
func TestAlikeAsLists(t *testing.T) {
	a, b := everything(), everything()
	a.Log = append(a.Log, entry(1, 1, write(1, "a")))[:2]
	a.Vector = append(a.Vector, api.Draw{Hi: 9})[:3]
	expectAlike(t, a, b, true)
	b.Log, b.Vector = a.Log, a.Vector
	expectAlike(t, a, b, true)
	long := api.Msg{Log: logOf(3000), Vector: make(api.Vector, 3000)}
	other := api.Msg{Log: logOf(3000), Vector: make(api.Vector, 3000)}
	expectAlike(t, long, other, true)
	other.Vector[2999].Lo = 1
	expectAlike(t, long, other, false)
	ends := api.Msg{Kind: math.MinInt, Node: math.MaxInt, View: math.MinInt, Last: math.MaxInt, Place: math.MinInt, Commit: math.MaxInt}
	expectAlike(t, ends, ends, true)
	expectAlike(t, ends, api.Msg{}, false)
}

func TestAlikeOfAnyMessages(t *testing.T) {
	r := rand.New(rand.NewPCG(7, 2))
	alike := 0
	for range 20000 {
		a := someMsg(r, small, pick(r, allKinds()...))
		b := a
		b.Log, b.Vector = slices.Clone(a.Log), slices.Clone(a.Vector)
		for range r.IntN(3) {
			b = spoilt(r, small, b)
		}
		expectAlike(t, a, b, same(a, b))
		if same(a, b) {
			alike++
		}
	}
	if alike < 2000 || alike > 18000 {
		t.Errorf("%d of 20000 are alike", alike)
	}
}
