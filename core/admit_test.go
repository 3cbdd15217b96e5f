package core_test

import (
	"math/rand/v2"
	"testing"

	"amnesia/api"
	"amnesia/core"
	"amnesia/message"
)

// P9.1: Admit.

func expectAdmit(t *testing.T, what string, c api.Config, s api.State, m api.Msg, wantState api.State, want bool) {
	t.Helper()
	got, ok, e := core.Admit(c, s, m)
	if e != api.OK || ok != want {
		t.Fatalf("%s: %v %d, want %v: %+v to %+v", what, ok, e, want, m, s)
	}
	expectState(t, what, got, wantState)
}

// wantAdmit is the chapter's words, in their order.
func wantAdmit(c api.Config, s api.State, m api.Msg) (api.State, bool) {
	s = own(s)
	if isClients(m.Kind) {
		return s, true
	}
	if m.Node == s.Self {
		return s, false
	}
	if c.Unguarded {
		return s, true
	}
	if below(m.Vector[m.Node], s.Vector[m.Node]) || below(s.Vector[s.Self], m.Vector[s.Self]) {
		return s, false
	}
	for i, d := range m.Vector {
		if below(s.Vector[i], d) {
			s.Vector[i] = d
		}
	}
	behind := own(s)
	behind.Acks, behind.Marks, behind.Ballots, behind.Answers = nil, nil, nil, nil
	for _, a := range s.Acks {
		if !below(a.Draw, s.Vector[a.Node]) {
			behind.Acks = append(behind.Acks, a)
		}
	}
	for _, v := range s.Marks {
		if !below(v.Draw, s.Vector[v.Node]) {
			behind.Marks = append(behind.Marks, v)
		}
	}
	for _, b := range s.Ballots {
		if !below(b.Draw, s.Vector[b.Node]) {
			behind.Ballots = append(behind.Ballots, b)
		}
	}
	for _, a := range s.Answers {
		if !below(a.Draw, s.Vector[a.Node]) {
			behind.Answers = append(behind.Answers, a)
		}
	}
	return behind, true
}

func TestAdmitExamples(t *testing.T) {
	s := first(t, three, 1)
	commit := func(v api.Vector) api.Msg { return api.Msg{Kind: api.KindCommit, Vector: v} }
	behind := changed(first(t, three, 1), func(s *api.State) { s.Vector = los(4, 0, 0) })
	expectAdmit(t, "example 1", three, s, commit(los(4, 0, 0)), behind, true)
	expectAdmit(t, "example 1, then", three, behind, commit(los(0, 0, 0)), behind, false)
	expectAdmit(t, "example 2", three, s, commit(los(4, 3, 0)), s, false)
	expectAdmit(t, "example 2, then", three, behind, commit(los(4, 3, 0)), behind, false)
}

// Every kind, to every state: what goes between clients and replicas is admitted and changes nothing, whoever has sent it.
func TestAdmitOfEveryKind(t *testing.T) {
	for name, state := range everyState() {
		for _, k := range allKinds() {
			for node := range 5 {
				m := msgOf(five, k, node, los(7, 1, 7, 10, 2))
				s := state()
				want, admitted := wantAdmit(five, s, m)
				expectAdmit(t, name, five, s, m, want, admitted)
				if isClients(k) && (!admitted || !same(want, s)) || !isClients(k) && node == s.Self && admitted {
					t.Error(name, k, node, admitted)
				}
			}
		}
	}
}

// Each reason not to admit, alone and two at once; of each kind between replicas.
func TestAdmitByItsReasons(t *testing.T) {
	open := five
	open.Unguarded = true
	mine := api.Vector{{Hi: 2, Lo: 2}, {Hi: 2, Lo: 2}, {Hi: 2, Lo: 2}, {Hi: 2, Lo: 2}, {Hi: 2, Lo: 2}}
	s := api.State{Self: 1, Status: api.StatusNormal, View: 2, Last: 2, Vector: mine}
	for _, k := range allKinds() {
		if isClients(k) {
			continue
		}
		msg := func(node int, own, ofSelf, ofThird api.Draw) api.Msg {
			v := append(api.Vector(nil), mine...)
			v[3], v[1], v[node] = ofThird, ofSelf, own
			return msgOf(five, k, node, v)
		}
		at, under, above := api.Draw{Hi: 2, Lo: 2}, []api.Draw{{Hi: 2, Lo: 1}, {Hi: 1, Lo: 3}, {Hi: 1, Lo: 2}}, []api.Draw{{Hi: 2, Lo: 3}, {Hi: 3, Lo: 1}, {Hi: 3, Lo: 2}}
		with := func(node int, d api.Draw) api.State {
			b := own(s)
			b.Vector[node] = d
			return b
		}
		expectAdmit(t, "the same vector", five, s, msg(0, at, at, at), s, true)
		expectAdmit(t, "from itself", five, s, msg(1, at, at, at), s, false)
		expectAdmit(t, "from itself, unguarded", open, s, msg(1, at, at, at), s, false)
		expectAdmit(t, "unguarded", open, s, msg(0, at, at, at), s, true)
		for _, d := range under {
			expectAdmit(t, "a life that is over", five, s, msg(0, d, at, at), s, false)
			expectAdmit(t, "it knows less of me", five, s, msg(0, at, d, at), s, true)
			expectAdmit(t, "it knows less of a third", five, s, msg(0, at, at, d), s, true)
			expectAdmit(t, "over, unguarded", open, s, msg(0, d, at, at), s, true)
			expectAdmit(t, "over, from itself", five, s, msg(1, d, d, at), s, false)
			expectAdmit(t, "over, from itself, unguarded", open, s, msg(1, d, d, at), s, false)
			for _, up := range above {
				expectAdmit(t, "over, and a later life of mine", five, s, msg(0, d, up, at), s, false)
				expectAdmit(t, "both, unguarded", open, s, msg(0, d, up, at), s, true)
				expectAdmit(t, "over, though it knows more of a third", five, s, msg(0, d, at, up), s, false)
			}
		}
		for _, d := range above {
			expectAdmit(t, "a later life", five, s, msg(0, d, at, at), with(0, d), true)
			expectAdmit(t, "a later life, unguarded", open, s, msg(0, d, at, at), s, true)
			expectAdmit(t, "a later life of mine", five, s, msg(0, at, d, at), s, false)
			expectAdmit(t, "a later life of mine, unguarded", open, s, msg(0, at, d, at), s, true)
			expectAdmit(t, "a later life of mine, from itself", five, s, msg(1, d, d, at), s, false)
			expectAdmit(t, "a later life of mine and its own", five, s, msg(0, d, d, at), s, false)
			expectAdmit(t, "a later life of a third", five, s, msg(0, at, at, d), with(3, d), true)
			expectAdmit(t, "a third's, unguarded", open, s, msg(0, at, at, d), s, true)
		}
		both := with(0, above[0])
		both.Vector[3] = above[1]
		expectAdmit(t, "two entries", five, s, msg(0, above[0], under[0], above[1]), both, true)
	}
}

// Votes of each list: those of lives that are over by the new vector fall out, the sender's or a third's; the others stay, in their order.
func TestAdmitLetsVotesFall(t *testing.T) {
	v := los(5, 5, 5, 5, 5, 5, 5)
	stamps := []int{0, 2, 3, 5, 6}
	states := map[string]func(nodes ...int) api.State{
		"acks": func(nodes ...int) api.State {
			s := api.State{Self: 1, Status: api.StatusNormal, View: 8, Last: 8, Log: logOf(4), Commit: 2, Vector: v}
			for _, node := range nodes {
				s.Acks = append(s.Acks, api.Ack{Node: node, Draw: lo(5), Place: 1 + node%4})
			}
			return s
		},
		"marks": func(nodes ...int) api.State {
			s := api.State{Self: 1, Status: api.StatusChange, View: 8, Last: 7, Log: logOf(4), Commit: 2, Vector: v, Idle: 4}
			for _, node := range nodes {
				s.Marks = append(s.Marks, api.Mark{Node: node, Draw: lo(5)})
			}
			return s
		},
		"answers": func(nodes ...int) api.State {
			s := api.State{Self: 1, Status: api.StatusRecovering, Vector: v}
			for _, node := range nodes {
				s.Answers = append(s.Answers, api.Answer{Node: node, Draw: lo(5), View: 7 + node, Commit: node % 2, Log: logOf(1 + node)})
			}
			return s
		},
		"ballots": func(nodes ...int) api.State {
			s := api.State{Self: 1, Status: api.StatusChange, View: 8, Last: 7, Log: logOf(4), Commit: 2, Vector: v, Idle: 4}
			for _, node := range nodes {
				s.Ballots = append(s.Ballots, api.Ballot{Node: node, Draw: lo(5), Last: node, Commit: node % 2, Log: logOf(1 + node)})
			}
			return s
		},
	}
	for name, state := range states {
		voters := [][]int{stamps, {0, 2}, {6}, {}}
		if name == "ballots" {
			voters = [][]int{{0, 2}, {3, 6}, {5}, {}}
		}
		for _, l := range voters {
			for fallen := range 1 << 7 { // which entries the message has above
				if fallen&2 > 0 {
					continue // its own: not admitted
				}
				var stay []int
				for _, node := range l {
					if fallen&(1<<node) == 0 {
						stay = append(stay, node)
					}
				}
				told := append(api.Vector(nil), v...)
				want := state(stay...)
				want.Vector = append(api.Vector(nil), v...)
				for node := range told {
					switch {
					case fallen&(1<<node) > 0:
						told[node] = api.Draw{Hi: 1}
						want.Vector[node] = api.Draw{Hi: 1}
					case node != 4:
						told[node] = lo(uint64(4 + node%2)) // as great, or less, which lets none fall
					}
				}
				from := 4
				if fallen&1 > 0 {
					from = 0 // a vote of the sender's own earlier life
				}
				expectAdmit(t, name, seven, state(l...), msgOf(seven, api.KindGetState, from, told), want, true)
			}
		}
	}
}

// Wrong messages: message.Check's error, behind those of configuration and state, ahead of whether it is admitted.
func TestAdmitOfWrongMessages(t *testing.T) {
	right := msgOf(five, api.KindCommit, 0, los(9, 0, 0, 0, 0))
	wrong := map[api.Errno][]api.Msg{
		api.ErrKind: {{}, {Kind: 15}, {Kind: -1}, {Kind: 0, Node: 2, Vector: los(0, 0, 0, 0, 0)}},
		api.ErrField: {
			{Kind: api.KindCommit}, {Kind: api.KindRequest}, {Kind: api.KindReply},
			{Kind: api.KindCommit, Node: 2, Vector: los(0, 0, 0, 0, 0)}, // from itself, and not the primary
			{Kind: api.KindGetState, Node: 5, Vector: los(0, 0, 0, 0, 0)},
			{Kind: api.KindGetState, Node: -1, Vector: los(0, 0, 0, 0, 0)},
			{Kind: api.KindGetState, Vector: los(0, 0, 0)},
			{Kind: api.KindGetState, Vector: los(0, 0, 0, 0, 0), Place: 1},
			{Kind: api.KindRecovery, Vector: los(0, 0, 0, 0, 0)},
		},
	}
	for want, l := range wrong {
		for _, m := range l {
			for _, state := range everyState() {
				for _, open := range []bool{false, true} {
					c := five
					c.Unguarded = open
					if s, ok, e := core.Admit(c, state(), m); e != want || ok || !isZero(s) {
						t.Error(m, ok, e)
					}
					no := changed(state(), func(s *api.State) { s.Idle = -1 })
					if s, ok, e := core.Admit(c, no, m); e != api.ErrState || ok || !isZero(s) {
						t.Error("a state that may not be:", m, ok, e)
					}
					c.Room = 0
					if s, ok, e := core.Admit(c, no, m); e != api.ErrConfig || ok || !isZero(s) {
						t.Error("a configuration that may not be:", m, ok, e)
					}
				}
			}
		}
	}
	if _, _, e := core.Admit(five, aBackup(), right); e != api.OK {
		t.Error(e)
	}
}

// States and messages at random against the words.
func TestAdmitByItsWords(t *testing.T) {
	r := rand.New(rand.NewPCG(9, 2))
	met := make(map[[3]bool]int)
	errs := make(map[api.Errno]int)
	for range 60000 {
		c := pick(r, configs()...)
		s, m := someState(r, c), someMsg(r, c)
		if r.IntN(10) == 0 {
			spoilOne(r, &s)
		}
		if r.IntN(10) == 0 {
			m = pick(r, changedMsg(m, func(m *api.Msg) { m.Node = pick(r, edges...) }), changedMsg(m, func(m *api.Msg) { m.Kind++ }), changedMsg(m, func(m *api.Msg) { m.Vector = append(m.Vector, lo(1)) }), changedMsg(m, func(m *api.Msg) { m.Kind = 0 }))
		}
		e := wantCheck(c, s)
		if e == api.OK {
			e = message.Check(c, m)
		}
		errs[e]++
		if e != api.OK {
			if got, ok, is := core.Admit(c, s, m); is != e || ok || !isZero(got) {
				t.Fatalf("%d, want %d: %+v to %+v", is, e, m, s)
			}
			continue
		}
		want, admitted := wantAdmit(c, s, m)
		expectAdmit(t, "at random", c, s, m, want, admitted)
		votes := func(s api.State) int { return len(s.Acks) + len(s.Marks) + len(s.Ballots) + len(s.Answers) }
		met[[3]bool{admitted, same(s, want), votes(s) == votes(want)}]++
	}
	if met[[3]bool{false, true, true}] < 1000 || met[[3]bool{true, true, true}] < 1000 || met[[3]bool{true, false, true}] < 500 || met[[3]bool{true, false, false}] < 500 {
		t.Error("too few of some:", met)
	}
	if errs[api.ErrState] < 500 || errs[api.ErrKind] < 100 || errs[api.ErrField] < 500 {
		t.Error("too few of some:", errs)
	}
}

func changedMsg(m api.Msg, change func(*api.Msg)) api.Msg {
	change(&m)
	return m
}
