package nemesis_test

import (
	"strings"
	"sync"
	"testing"

	"amnesia/api"
	"amnesia/history"
	"amnesia/nemesis"
)

// P23.2 and P23.3: a script is played to its end, hangs on plan and seed alone, and keeps the premises.

// The same plan and seed once more, ahead of others and behind them, at one time and in other words.
func TestTheSameAgain(t *testing.T) {
	t.Parallel()
	for k := range uint64(25) {
		r := seeded(3000 + k)
		plan, seed := somePlan(r), r.Uint64()
		s, l, line, e := nemesis.Compile(plan, seed)
		if line != 0 && e != api.ErrBudget {
			t.Fatal(plan, line, e)
		}
		again := func(plan string) {
			s2, l2, line2, e2 := nemesis.Compile(plan, seed)
			if !sameSetup(s, s2) || !sameEvents(l, l2) || line != line2 || e != e2 {
				t.Errorf("%q, %d: another answer: %d events, %d, %d; ahead: %d events, %d, %d", plan, seed, len(l2), line2, e2, len(l), line, e)
			}
		}
		again(plan)
		var all sync.WaitGroup
		for other := range uint64(6) {
			all.Add(1)
			go func() {
				defer all.Done()
				nemesis.Compile(plan, seed+other)
				again(plan)
				nemesis.Compile(somePlan(seeded(other)), seed)
			}()
		}
		all.Wait()
		again(strings.ReplaceAll(plan, " ", "   ") + "   ")
		again(strings.ReplaceAll(plan, "\n", " \n"))
	}
}

// Other seeds make other scripts, where there are words to draw; and the same one where there are none.
func TestOtherSeeds(t *testing.T) {
	scripts := make(map[string]bool)
	for seed := range uint64(100) {
		scripts[textOf(t, head+"load 10\nrun 3\n", seed<<57|seed)] = true
	}
	if len(scripts) != 100 {
		t.Fatal("different scripts:", len(scripts))
	}
	quiet := group + "clock 1 3\nrun 1\ncrash 0\ncrash 1\nrestart 0\ncalm 40\nload 5\n"
	for seed := range uint64(20) {
		if textOf(t, quiet, seed) != textOf(t, quiet, 0) {
			t.Fatal(seed)
		}
	}
}

// textOf: a plan's script in a form that may be compared.
func textOf(t *testing.T, plan string, seed uint64) string {
	t.Helper()
	_, l := compiled(t, plan, seed)
	return dumped(false, l)
}

// tells: how many rows of each kind.
func tells(rows []api.Seen) map[api.SeenKind]int {
	kinds := make(map[api.SeenKind]int)
	for _, row := range rows {
		kinds[row.Kind]++
	}
	return kinds
}

var none = api.Premise{Few: -1, Fresh: -1, Genuine: -1}

// Drawn plans without stale keep Fresh and Genuine; without crash too, Few as well. Where crash vectors are looked at, there is no fault.
func TestPremises(t *testing.T) {
	t.Parallel()
	met := make(map[string]int)
	for k := range uint64(100) {
		r := seeded(5000 + k)
		a := leaning{crash: k%2 == 0, unguarded: k%5 == 0}
		plan, seed := a.plan(r, 5+r.IntN(25)), r.Uint64()
		s, l, line, e := nemesis.Compile(plan, seed)
		if e != api.OK {
			if e != api.ErrBudget || line == 0 {
				t.Fatal(plan, line, e)
			}
			continue
		}
		rows := ran(t, s, l)
		p, e := history.Premises(s.Config, rows)
		j, f := history.Judge(s, rows)
		switch {
		case e != api.OK || f != api.OK:
			t.Fatal(plan, seed, e, f)
		case p.Fresh != -1 || p.Genuine != -1 || p.Few != -1 && !a.crash:
			t.Fatalf("%q, %d: %+v", plan, seed, p)
		case j.Fault != -1 && !a.unguarded:
			t.Fatalf("%q, %d: fault %d", plan, seed, j.Fault)
		}
		if p.Few != -1 {
			met["many"]++
		}
		for kind, n := range tells(rows) {
			met[map[api.SeenKind]string{api.SeenReply: "replies", api.SeenLead: "leads", api.SeenBack: "returns", api.SeenDown: "crashes", api.SeenTold: "told", api.SeenDone: "done"}[kind]] += n
		}
	}
	expectEnough(t, met, map[string]int{"many": 4, "replies": 40, "leads": 25, "returns": 20, "crashes": 80, "told": 20, "done": 200})
}

// What loses packets, spoils and holds them back most, without a crash line: long churns.
func TestPremisesOfChurn(t *testing.T) {
	t.Parallel()
	replies := 0
	for _, g := range groups {
		for _, fault := range []string{"0 0 0 0", "30 0 0 0", "0 40 0 0", "0 0 40 0", "0 0 0 60", "10 20 10 30"} {
			plan := g.line + "client 0\nclient 0\nload 3\nfault " + fault + "\nchurn 30 15\nload 2\nclock 0 3\nchurn 80 10\nsplit 0 1\nchurn 20 10\nheal\nload 2\nchurn 10 5\n"
			for seed := range uint64(2) {
				s, l, line, e := nemesis.Compile(plan, seed)
				if e == api.ErrBudget && line > 4 {
					continue
				}
				rows := ran(t, s, l)
				p, _ := history.Premises(s.Config, rows)
				j, _ := history.Judge(s, rows)
				if e != api.OK || p != none || j.Fault != -1 && !s.Config.Unguarded {
					t.Fatalf("%q, %d: %d, %d, %+v, fault %d", plan, seed, line, e, p, j.Fault)
				}
				replies += tells(rows)[api.SeenReply]
			}
		}
	}
	if replies < 30 {
		t.Fatal("too few replies:", replies)
	}
}

// forgetful is a plan whose returned replica takes an answer to its last life for one to this: only 0 and 1 have the request that is answered, and 1 forgets it. All that is sent comes again in each round.
const forgetful = `group 1 20 6
client 0
clock 0 0
clock 1 0
clock 2 0
crash 1
restart 1
run 1
fault 0 100 0 0
run 1
split 2
load 1
run 4
heal
fault 0 0 0 0
crash 1
stale 1
run 1
split 0
run 1
clock 1 1
clock 2 1
run 12
`

// With stale a draw is used again, and an answered entry is lost; with restart in its place neither.
func TestStale(t *testing.T) {
	faults := 0
	for seed := range uint64(30) {
		s, l := compiled(t, forgetful, seed)
		rows := ran(t, s, l)
		p, _ := history.Premises(s.Config, rows)
		if p.Few != -1 || p.Genuine != -1 || p.Fresh == -1 {
			t.Fatal(seed, p)
		}
		answered := tells(rows)[api.SeenReply] == 1
		j, _ := history.Judge(s, rows)
		if (j.Fault != -1) != answered {
			t.Fatal(seed, j.Fault, answered)
		}
		if answered {
			faults++
			if row := rows[j.Fault]; row.Kind != api.SeenBack || row.Node != 1 || len(row.Log) != 0 || j.Fault < p.Fresh {
				t.Fatal(seed, row, p)
			}
		}
		s, l = compiled(t, strings.Replace(forgetful, "stale", "restart", 1), seed)
		rows = ran(t, s, l)
		p, _ = history.Premises(s.Config, rows)
		if j, _ := history.Judge(s, rows); p != none || j.Fault != -1 || answered != (tells(rows)[api.SeenReply] == 1) {
			t.Fatal(seed, p, j.Fault)
		}
	}
	if faults < 15 {
		t.Fatal("too few:", faults)
	}
}

// A crash line breaks Few where more than F are away by it, a churn never does.
func TestFew(t *testing.T) {
	for _, x := range []struct {
		lines string
		few   int // the row
	}{
		{"crash 0\ncrash 1\n", 1}, {"crash 0\nrestart 0\ncrash 1\n", 4}, {"crash 2\nrestart 2\ncalm 5\ncrash 1\n", -1}, {"crash 2\nrestart 2\ncrash 2\nrestart 2\n", -1},
	} {
		s, l := compiled(t, group+x.lines, 1)
		if p, _ := history.Premises(s.Config, ran(t, s, l)); p != (api.Premise{Few: x.few, Fresh: -1, Genuine: -1}) {
			t.Fatal(x.lines, p)
		}
	}
}
