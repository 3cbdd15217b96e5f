package nemesis_test

import (
	"fmt"
	"math/rand/v2"
	"testing"

	"amnesia/api"
	"amnesia/cluster"
	"amnesia/core"
	"amnesia/nemesis"
)

// P23.4: behind enough calm rounds all is well again.

// allAgain: the lines that start all replicas that are crashed.
func allAgain(nodes int) string {
	text := ""
	for node := range nodes {
		text += fmt.Sprintf("restart %d\n", node)
	}
	return text
}

// calmLines: so many calm rounds, in one line or in several.
func calmLines(r *rand.Rand, rounds int) string {
	text := ""
	for rounds > 0 {
		some := rounds
		if r.IntN(3) > 0 {
			some = 1 + r.IntN(rounds)
		}
		text += fmt.Sprintf("calm %d\n", some)
		rounds -= some
	}
	return text
}

// asksFor: does that point have what P23.4 asks for? How many are normal, and how many requests were made, by what the cluster tells.
func asksFor(u *cluster.Cluster, s api.Setup, script []api.Event) bool {
	normal, requests := 0, 0
	for node := range core.Nodes(s.Config) {
		if look, alive := u.Look(node); alive && look.Status == api.StatusNormal {
			normal++
		}
	}
	for _, e := range script {
		if e.Kind == api.EventSubmit {
			requests++
		}
	}
	return normal >= s.Config.F+1 && requests <= s.Config.Room
}

// expectWell: all replicas are normal, and no client waits.
func expectWell(t *testing.T, plan string, seed uint64) {
	t.Helper()
	s, _ := compiled(t, plan, seed)
	u := played(t, plan, seed)
	for node := range core.Nodes(s.Config) {
		if look, alive := u.Look(node); !alive || look.Status != api.StatusNormal {
			t.Fatalf("%q, %d: replica %d: %t, %+v", plan, seed, node, alive, look)
		}
	}
	for client := range s.Clients {
		if look, _ := u.Client(client); look.Waits {
			t.Fatalf("%q, %d: client %d waits: %+v", plan, seed, client, look)
		}
	}
}

func TestCalm(t *testing.T) {
	t.Parallel()
	met := make(map[string]int)
	for k := range uint64(60) {
		r := seeded(7000 + k)
		a := leaning{crash: k%3 == 0, unguarded: k%7 == 0}
		trouble, seed := a.plan(r, 3+r.IntN(18)), r.Uint64()
		s, _, _, e := nemesis.Compile(trouble, seed)
		if e != api.OK {
			continue
		}
		trouble += allAgain(core.Nodes(s.Config))
		_, l, _, e := nemesis.Compile(trouble, seed)
		if e != api.OK || len(l) > api.MaxEvents-200 {
			continue
		}
		u := played(t, trouble, seed)
		if !asksFor(u, s, l) {
			met["not asked"]++
			continue
		}
		bound := cluster.Bound(s.Config)
		if r.IntN(3) == 0 {
			bound += r.IntN(100)
		}
		expectWell(t, trouble+calmLines(r, bound), seed)
		met[fmt.Sprint("F ", s.Config.F)]++
		met["waiting"] += waiting(u, s)
		met["away"] += away(u, s)
	}
	expectEnough(t, met, map[string]int{"F 1": 10, "F 2": 5, "F 3": 5, "waiting": 10, "away": 15, "not asked": 3})
}

// waiting: how many clients wait.
func waiting(u *cluster.Cluster, s api.Setup) int {
	n := 0
	for client := range s.Clients {
		if look, _ := u.Client(client); look.Waits {
			n++
		}
	}
	return n
}

// away: how many replicas are not normal.
func away(u *cluster.Cluster, s api.Setup) int {
	n := 0
	for node := range core.Nodes(s.Config) {
		if look, _ := u.Look(node); look.Status != api.StatusNormal {
			n++
		}
	}
	return n
}

// Whatever a plan has set, a calm round does not know of it.
func TestCalmAtTheWorst(t *testing.T) {
	t.Parallel()
	for _, g := range groups {
		for _, worst := range []string{"fault 100 0 0 0\n", "fault 0 0 100 0\n", "fault 0 0 0 100\n", "split 0\n", "split 0 1\n", "clock 0 0\nclock 1 0\nclock 2 0\n", "clock 1 9\n", "fault 0 100 0 0\nsplit 1\nclock 2 0\n"} {
			s, _ := compiled(t, g.line, 0)
			for seed := range uint64(1) {
				plan := g.line + "client 0\nclient 7\nload 2\nrun 2\n" + worst + "load 2\nrun 3\nload 1\n" + allAgain(g.nodes)
				expectWell(t, plan+fmt.Sprintf("calm %d\n", cluster.Bound(s.Config)), seed)
			}
		}
	}
}
