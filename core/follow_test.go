package core_test

import (
	"math/rand/v2"
	"testing"

	"amnesia/api"
	"amnesia/core"
	"amnesia/vector"
)

// step: one call of Admit, Wait or Carry, at random.
func step(r *rand.Rand, c api.Config, s api.State) (api.State, api.Errno) {
	var e api.Errno
	switch r.IntN(4) {
	case 0:
		s, _, e = core.Wait(c, s)
	case 1:
		s, _, e = core.Carry(c, s, r.IntN(len(s.Log)+1))
	default:
		s, _, e = core.Admit(c, s, someMsg(r, c))
	}
	return s, e
}

// P9.2: what the calls answer may be, however often they are called.
func TestAnswersAreStatesThatMayBe(t *testing.T) {
	r := rand.New(rand.NewPCG(9, 10))
	for range 3000 {
		c := pick(r, configs()...)
		s := someState(r, c)
		switch r.IntN(4) {
		case 0:
			s, _ = core.First(c, r.IntN(2*c.F+1))
		case 1:
			s, _ = core.Reborn(c, r.IntN(2*c.F+1), lo(1+r.Uint64N(3)))
		}
		for range 8 {
			if e := core.Check(c, s); e != api.OK || !stateMayBe(c, s) {
				t.Fatalf("%d: %+v", e, s)
			}
			next, e := step(r, c, s)
			if e != api.OK {
				t.Fatalf("%d: %+v", e, s)
			}
			s = next
		}
	}
}

// P9.3: the same message again changes nothing more, and is admitted again.
func TestAdmitOnceMore(t *testing.T) {
	r := rand.New(rand.NewPCG(9, 11))
	for range 20000 {
		c := pick(r, configs()...)
		m := someMsg(r, c)
		s, ok, _ := core.Admit(c, someState(r, c), m)
		again, okAgain, e := core.Admit(c, s, m)
		if e != api.OK || ok != okAgain || !same(s, again) {
			t.Fatalf("%v, then %v: %+v, then %+v", ok, okAgain, s, again)
		}
	}
}

// P9.3: the vector never goes down, its own entry never changes, and who is over by it stays so.
func TestAdmitGoesUpAlone(t *testing.T) {
	r := rand.New(rand.NewPCG(9, 12))
	let, went := 0, 0
	for range 2000 {
		c := pick(r, three, five, seven)
		s := someState(r, c)
		var over []api.Msg
		for range 12 {
			m := someMsg(r, c)
			behind, ok, e := core.Admit(c, s, m)
			if e != api.OK {
				t.Fatal(e)
			}
			if behind.Vector[s.Self] != s.Vector[s.Self] {
				t.Fatal("its own entry has changed")
			}
			for i := range s.Vector {
				if below(behind.Vector[i], s.Vector[i]) {
					t.Fatal("an entry has gone down")
				}
				if below(s.Vector[i], behind.Vector[i]) {
					went++
				}
			}
			if !ok && m.Node != s.Self && below(m.Vector[m.Node], s.Vector[m.Node]) {
				over = append(over, m)
			}
			s = behind
			for _, m := range over {
				let++
				if still, ok, e := core.Admit(c, s, m); ok || e != api.OK || !same(still, s) {
					t.Fatal("a life that was over is admitted later")
				}
			}
		}
	}
	if let < 10000 || went < 5000 {
		t.Error("too few:", let, went)
	}
}

// P9.3: messages that are admitted in either order come to the same vector.
func TestAdmitInEitherOrder(t *testing.T) {
	r := rand.New(rand.NewPCG(9, 13))
	both := 0
	for range 20000 {
		c := pick(r, three, five, seven)
		s, a, b := someState(r, c), someMsg(r, c), someMsg(r, c)
		ab, okA, _ := core.Admit(c, s, a)
		ab, okB, _ := core.Admit(c, ab, b)
		ba, okBefore, _ := core.Admit(c, s, b)
		ba, okBehind, _ := core.Admit(c, ba, a)
		if okA && okB && okBefore && okBehind {
			both++
			if !same(ab, ba) {
				t.Fatalf("%+v, %+v", ab, ba)
			}
		}
	}
	if both < 1000 {
		t.Error("too few:", both)
	}
}

// voices: those of the votes that a state holds, each as one that knows of nothing but its own draw.
func voices(s api.State) []api.Voice {
	var l []api.Voice
	add := func(node int, d api.Draw) {
		v := make(api.Vector, len(s.Vector))
		v[node] = d
		l = append(l, api.Voice{Node: node, Vector: v})
	}
	for _, a := range s.Acks {
		add(a.Node, a.Draw)
	}
	for _, m := range s.Marks {
		add(m.Node, m.Draw)
	}
	for _, b := range s.Ballots {
		add(b.Node, b.Draw)
	}
	for _, a := range s.Answers {
		add(a.Node, a.Draw)
	}
	return l
}

// P9.4: the votes of a state that may be are consistent with its vector; one whose life it knows to be over makes it one that may not be.
func TestVotesAreConsistent(t *testing.T) {
	r := rand.New(rand.NewPCG(9, 14))
	held := 0
	for range 10000 {
		c := pick(r, configs()...)
		s := someState(r, c)
		for range 3 {
			l := voices(s)
			held += len(l)
			for _, v := range l {
				if vector.Over(s.Vector, v) {
					t.Fatalf("%v is over: %+v", v, s)
				}
			}
			if i, k, e := vector.Consistent(append(l, api.Voice{Node: s.Self, Vector: s.Vector})...); i != -1 || k != -1 || e != api.OK {
				t.Fatalf("%d %d %d: %+v", i, k, e, s)
			}
			s, _ = step(r, c, s)
		}
		for _, v := range voices(s) {
			up := own(s)
			if up.Vector[v.Node].Lo++; up.Vector[v.Node].Lo == 0 {
				continue
			}
			if !vector.Over(up.Vector, v) || core.Check(c, up) != api.ErrState {
				t.Fatalf("a vote that is over may be: %+v", up)
			}
		}
	}
	if held < 10000 {
		t.Error("too few votes:", held)
	}
}

// P9.5: in any Patience ticks that follow one another just one answers true.
func TestPatienceEndsOnceInARound(t *testing.T) {
	r := rand.New(rand.NewPCG(9, 15))
	for range 300 {
		c := pick(r, configs()...)
		c.Patience = pick(r, 6, 7, 50, 100)
		s := someState(r, c)
		waits := s.Status == api.StatusChange || s.Status == api.StatusNormal && s.Self != s.View%(2*c.F+1)
		var ends []bool
		for range 3 * c.Patience {
			var end bool
			var e api.Errno
			if s, end, e = core.Wait(c, s); e != api.OK {
				t.Fatal(e)
			}
			ends = append(ends, end)
		}
		for at := range 2 * c.Patience {
			n := 0
			for _, end := range ends[at : at+c.Patience] {
				if end {
					n++
				}
			}
			if waits && n != 1 || !waits && n != 0 {
				t.Fatalf("%d ends in %d ticks: %+v", n, c.Patience, s)
			}
		}
	}
}
