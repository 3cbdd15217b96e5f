package nonce_test

import (
	"math/rand/v2"
	"slices"
	"testing"

	"amnesia/api"
	"amnesia/nonce"
)

func newGroup(t *testing.T, kind, nodes int, seed uint64) *nonce.Group {
	t.Helper()
	g, e := nonce.NewGroup(kind, nodes, seed)
	if e != api.OK || g == nil {
		t.Fatalf("NewGroup(%d, %d, %d): %v, %d", kind, nodes, seed, g, e)
	}
	return g
}

func wantOf(t *testing.T, g *nonce.Group, node int, want api.Draw) {
	t.Helper()
	if d, e := g.Draw(node); e != api.OK || d != want {
		t.Fatalf("Draw(%d): %v, %d, want %v", node, d, e, want)
	}
}

// P2.9: the sources of a group.

func TestGroupOfPairs(t *testing.T) {
	g := newGroup(t, api.SourceClock, 3, 100)
	if len(g.Drawn()) != 0 {
		t.Error("at first:", g.Drawn())
	}
	wantOf(t, g, 0, api.Draw{Hi: 100, Lo: 1})
	wantOf(t, g, 1, api.Draw{Hi: 100, Lo: 1})
	if e := g.Wipe(0); e != api.OK {
		t.Error(e)
	}
	if e := g.Pass(5); e != api.OK {
		t.Error(e)
	}
	wantOf(t, g, 0, api.Draw{Hi: 105, Lo: 1})
	if d, e := g.Draw(3); e != api.ErrArg || d != (api.Draw{}) {
		t.Error(d, e)
	}
	want := []api.Stamp{stamp(0, 100, 1), stamp(1, 100, 1), stamp(0, 105, 1)}
	if !slices.Equal(g.Drawn(), want) {
		t.Error(g.Drawn())
	}
}

func TestGroupSetAndPassAreTheClocks(t *testing.T) {
	g := newGroup(t, api.SourceClock, 2, 10)
	if g.Set(9) != api.ErrPast || g.Set(12) != api.OK || g.Pass(top) != api.ErrEnd {
		t.Error("Set and Pass")
	}
	wantOf(t, g, 1, api.Draw{Hi: 12, Lo: 1})
	if g.Pass(top-12) != api.OK || g.Pass(1) != api.ErrEnd || g.Set(top-1) != api.ErrPast || g.Set(top) != api.OK {
		t.Error("at the greatest reading")
	}
	wantOf(t, g, 0, api.Draw{Hi: top, Lo: 1})
	wantOf(t, g, 1, api.Draw{Hi: top, Lo: 1})
}

func TestGroupWipesOneReplicaAlone(t *testing.T) {
	g := newGroup(t, api.SourceClock, api.MaxNodes, 8)
	for range 2 {
		for i := range api.MaxNodes {
			g.Draw(i)
		}
	}
	if g.Wipe(2) != api.OK {
		t.Error("Wipe")
	}
	for i := range api.MaxNodes {
		want := api.Draw{Hi: 8, Lo: 3}
		if i == 2 {
			want.Lo = 1
		}
		wantOf(t, g, i, want)
	}
}

func TestGroupOfMixed(t *testing.T) {
	for _, seed := range []uint64{0, 77, top - 2, top} {
		g := newGroup(t, api.SourceMixed, api.MaxNodes, seed)
		for i := range api.MaxNodes {
			l, _ := nonce.Take(nonce.NewMixed(seed+uint64(i)), 3)
			wantOf(t, g, i, l[0])
			if g.Set(0) != api.OK || g.Pass(top) != api.OK || g.Pass(top) != api.OK || g.Wipe(i) != api.OK {
				t.Error("Set, Pass and Wipe of mixed sources")
			}
			wantOf(t, g, i, l[1])
			wantOf(t, g, i, l[2])
		}
		if len(g.Drawn()) != 3*api.MaxNodes {
			t.Error(g.Drawn())
		}
	}
}

func TestGroupThatMayNotBe(t *testing.T) {
	for _, c := range []struct{ kind, nodes int }{
		{0, 3}, {3, 3}, {-1, 3}, {1 << 62, 3}, {-1 << 63, 1},
		{api.SourceClock, 0}, {api.SourceMixed, 0}, {api.SourceClock, -1}, {api.SourceMixed, -1 << 63},
		{api.SourceClock, api.MaxNodes + 1}, {api.SourceMixed, api.MaxNodes + 1}, {api.SourceClock, 1<<63 - 1}, {0, 0},
	} {
		if g, e := nonce.NewGroup(c.kind, c.nodes, 1); g != nil || e != api.ErrArg {
			t.Errorf("NewGroup(%d, %d, 1): %v, %d", c.kind, c.nodes, g, e)
		}
	}
}

func TestGroupHasItsNodesAndNoOther(t *testing.T) {
	for _, kind := range []int{api.SourceClock, api.SourceMixed} {
		for nodes := 1; nodes <= api.MaxNodes; nodes++ {
			g := newGroup(t, kind, nodes, 1)
			for _, node := range []int{-1 << 63, -1, nodes, nodes + 1, api.MaxNodes, 1<<63 - 1} {
				if d, e := g.Draw(node); d != (api.Draw{}) || e != api.ErrArg {
					t.Errorf("%d of %d: Draw: %v, %d", node, nodes, d, e)
				}
				if e := g.Wipe(node); e != api.ErrArg {
					t.Errorf("%d of %d: Wipe: %d", node, nodes, e)
				}
			}
			if len(g.Drawn()) != 0 {
				t.Error("what was no draw is told:", g.Drawn())
			}
			for i := range nodes {
				if _, e := g.Draw(i); e != api.OK || g.Wipe(i) != api.OK {
					t.Errorf("%d of %d: %d", i, nodes, e)
				}
			}
		}
	}
}

func TestGroupTellsNoDrawThatWasNone(t *testing.T) {
	g := newGroup(t, api.SourceClock, 1, 4)
	for k := range uint64(api.MaxCount) {
		wantOf(t, g, 0, api.Draw{Hi: 4, Lo: k + 1})
	}
	if d, e := g.Draw(0); d != (api.Draw{}) || e != api.ErrEnd {
		t.Error(d, e)
	}
	l := g.Drawn()
	if len(l) != api.MaxCount || l[len(l)-1] != stamp(0, 4, api.MaxCount) {
		t.Error(len(l))
	}
}

func TestDrawnIsNewMemory(t *testing.T) {
	g := newGroup(t, api.SourceClock, 2, 4)
	g.Draw(0)
	g.Draw(1)
	g.Draw(1)
	want := []api.Stamp{stamp(0, 4, 1), stamp(1, 4, 1), stamp(1, 4, 2)}
	l := g.Drawn()
	clear(l[:cap(l)])
	if !slices.Equal(g.Drawn(), want) {
		t.Error(g.Drawn())
	}
	g.Draw(0)
	if !slices.Equal(g.Drawn(), append(want, stamp(0, 4, 2))) || len(l) != 3 {
		t.Error(g.Drawn())
	}
}

// P2.10: a nil group, and one that no call made.

func TestNilGroup(t *testing.T) {
	var g *nonce.Group
	for _, node := range []int{-1, 0, 99} {
		if d, e := g.Draw(node); d != (api.Draw{}) || e != api.OK {
			t.Error(d, e)
		}
		if g.Wipe(node) != api.OK {
			t.Error("Wipe")
		}
	}
	if g.Set(5) != api.OK || g.Set(0) != api.OK || g.Pass(top) != api.OK || g.Pass(top) != api.OK || len(g.Drawn()) != 0 {
		t.Error("a nil Group")
	}
}

func TestZeroGroupDoesNotPanic(t *testing.T) {
	var g nonce.Group
	for _, node := range []int{-1, 0, 6, 7} {
		g.Draw(node)
		g.Wipe(node)
	}
	g.Set(5)
	g.Pass(top)
	g.Drawn()
}

// P2.13: what is drawn is fresh, as long as time passes behind each wipe; and sources know nothing of each other.

func TestDrawnIsFreshWhileTimePasses(t *testing.T) {
	r := rand.New(rand.NewPCG(2, 14))
	for range 200 {
		nodes := 1 + r.IntN(api.MaxNodes)
		g := newGroup(t, api.SourceClock, nodes, r.Uint64()>>1)
		wiped := make([]bool, nodes)
		for range 80 {
			node := r.IntN(nodes)
			switch r.IntN(4) {
			case 0:
				g.Wipe(node)
				wiped[node] = true
			case 1:
				g.Pass(r.Uint64N(2))
			default:
				if wiped[node] {
					g.Pass(1)
				}
				wiped[node] = false
				g.Draw(node)
			}
		}
		if fresh, at := nonce.Fresh(g.Drawn()); !fresh {
			t.Fatalf("not fresh at %d: %v", at, g.Drawn())
		}
	}
}

func TestDrawnIsNotFreshWithoutTime(t *testing.T) {
	g := newGroup(t, api.SourceClock, 3, 50)
	g.Draw(0)
	g.Draw(1)
	g.Wipe(1)
	g.Draw(0)
	g.Draw(1)
	if fresh, at := nonce.Fresh(g.Drawn()); fresh || at != 3 {
		t.Error(fresh, at, g.Drawn())
	}
}

func TestSourcesOfAGroupKnowNothingOfEachOther(t *testing.T) {
	for _, kind := range []int{api.SourceClock, api.SourceMixed} {
		alone, busy := newGroup(t, kind, 3, 6), newGroup(t, kind, 3, 6)
		for range 20 {
			busy.Draw(0)
			busy.Wipe(2)
			busy.Draw(2)
			want, _ := alone.Draw(1)
			wantOf(t, busy, 1, want)
		}
	}
}
