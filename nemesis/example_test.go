package nemesis_test

import (
	"testing"

	"amnesia/api"
	"amnesia/history"
	"amnesia/nemesis"
)

// The chapter's example.
const example = `group 1 20 6
client 0
load 2
fault 10 5 0 20
run 10
split 0
churn 30 20
heal
fault 0 0 0 0
restart 0
restart 1
restart 2
calm 400
`

func TestTheExample(t *testing.T) {
	t.Parallel()
	expectRight(t, example)
	s, l := compiled(t, example, 0)
	if !sameSetup(s, setupOf(three, 0)) || len(l) != 244 {
		t.Fatal(s, len(l))
	}
	// The first words of the seed 0 are written in chapter 2: e220a8397b1dcdaf (of one client it is 0), 6e789e6aa1b965f4 (modulo 5 it is 0: a write); then slot 7, "e", and so on. In the first round the words modulo 100 are 99, 90, 1, 26, 83, 31, 17, 7, 25.
	begin := []api.Event{
		submit(0, write(7, "e")), submit(0, write(1, "e")), retry(0),
		deliver(0), deliver(0), drop(0), deliver(1), drop(3), tick(0), tick(1), tick(2), retry(0),
	}
	if !sameEvents(l[:len(begin)], begin) {
		t.Fatal(l[:len(begin)])
	}
	// At the end 0 is crashed, for the second time.
	if end := []api.Event{tick(1), tick(2), restart(0, 2), round(400)}; !sameEvents(l[len(l)-len(end):], end) {
		t.Fatal(l[len(l)-len(end):])
	}
	for seed := range uint64(20) {
		m, e := expectModel(t, example, seed)
		if e != api.OK {
			t.Fatal(e)
		}
		if p, e := history.Premises(three, m.rows); e != api.OK || p != (api.Premise{Few: -1, Fresh: -1, Genuine: -1}) {
			t.Fatal(seed, p, e)
		}
		u := played(t, example, seed)
		for node := range 3 {
			if look, alive := u.Look(node); !alive || look.Status != api.StatusNormal {
				t.Fatal(seed, node, alive, look)
			}
		}
		if c, _ := u.Client(0); c.Waits {
			t.Fatal(seed, c)
		}
	}
	trials, line, e := nemesis.Survey(example, upTo(20), 4)
	if e != api.OK || line != 0 || len(trials) != 20 || trials[0] != (api.Trial{Seed: 0, Events: 244, Replies: 1, Leads: 1, Returns: 1, Fault: -1}) {
		t.Fatal(trials, line, e)
	}
	for _, x := range trials {
		if x.Fault != -1 || x.Leads == 0 || x.Returns == 0 {
			t.Fatal(x)
		}
	}
}
