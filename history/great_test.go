package history_test

import (
	"errors"
	"slices"
	"testing"

	"amnesia/api"
	"amnesia/cluster"
	"amnesia/history"
	"amnesia/message"
)

// G8: each premise is needed.

// loses: in such a run client 1 is answered that it has written what client 0 had written before; the judge tells so.
func (p *play) loses(why error) {
	p.t.Helper()
	a, first := p.answered(0)
	b, second := p.answered(1)
	if !first || !second || a != res(api.ResWritten, 7, "a") || b != res(api.ResWritten, 7, "b") {
		p.t.Fatal("nothing is lost:", a, first, b, second)
	}
	j := judgedOf(p.t, p.setup, p.rows)
	answer := slices.IndexFunc(p.rows, func(row api.Seen) bool { return row.Kind == api.SeenReply })
	if j.Fault <= answer || !slices.Contains(j.Sequence, eE) {
		p.t.Fatal("the judge does not tell so:", j, answer)
	}
	wrong := history.Verify(p.setup, p.rows)
	var broken *history.Broken
	if !errors.Is(wrong, why) || !errors.As(wrong, &broken) || broken.Row != j.Fault {
		p.t.Fatal(wrong)
	}
	sequence, fault, _ := model(p.setup.Config, p.rows)
	expect(p.t, p.setup, p.rows, fault, why, sequence...)
}

// keeps: what client 0 was answered stands, and client 1 is told so.
func (p *play) keeps() {
	p.t.Helper()
	a, first := p.answered(0)
	b, second := p.answered(1)
	if !first || !second || a != res(api.ResWritten, 7, "a") || b != res(api.ResTaken, 7, "a") {
		p.t.Fatal(a, first, b, second)
	}
	expect(p.t, p.setup, p.rows, -1, nil, eE, eG)
}

// twoLateVotes: replica 1 calls for a view and starts again; its call comes to 2, who sends its ballot, starts again too, and helps to commit an entry, which 1 does not hear of; then the ballot comes to 1.
func twoLateVotes(t *testing.T, c api.Config, draws ...api.Draw) *play {
	t.Helper()
	p := playing(t, setupOf(c, 2))
	if draws[0] != (api.Draw{}) {
		p.returns(1, draws[0])
		p.returns(2, draws[0])
	}
	for range c.Patience {
		p.do(tick(1, 0))
	}
	p.returns(1, draws[1])
	p.late(1, 2, api.KindStartViewChange)
	p.returns(2, draws[1])
	p.do(submit(0, write(7, "a")))
	p.gives(0, api.KindRequest)
	p.gives(2, api.KindPrepare)
	p.gives(0, api.KindPrepareOK)
	p.gives(api.MaxNodes, api.KindReply)
	p.clears()
	for _, q := range p.packets {
		if m, e := message.Decode(c, q.Bytes); q.From == 2 && q.To == 1 && e == api.OK && m.Kind == api.KindDoViewChange {
			p.comes(2, 1, q.Bytes)
		}
	}
	p.do(submit(1, write(7, "b")), rounds(cluster.Bound(c)))
	return p
}

func TestADrawThatIsUsedAgain(t *testing.T) {
	p := twoLateVotes(t, three, lo(5), lo(6))
	if got := p.premises(); got != premise(-1, -1, -1) {
		t.Fatal(got)
	}
	p.keeps()
	p = twoLateVotes(t, three, lo(5), lo(5))
	third := -1
	for i, row := range p.rows {
		if row.Kind == api.SeenUp && row.Node == 1 {
			third = i // its second start, with the draw of its first one
		}
	}
	if got := p.premises(); got != premise(-1, third, -1) {
		t.Fatal(got, third)
	}
	p.loses(history.ErrLead)
}

func TestWithoutCrashVectors(t *testing.T) {
	p := twoLateVotes(t, three, api.Draw{}, lo(5))
	if got := p.premises(); got != premise(-1, -1, -1) {
		t.Fatal(got)
	}
	p.keeps()
	c := three
	c.Unguarded = true
	p = twoLateVotes(t, c, api.Draw{}, lo(5))
	if got := p.premises(); got != premise(-1, -1, -1) {
		t.Fatal(got)
	}
	p.loses(history.ErrLead)
}

// A StartView with an empty log, by the primary of view 3, whose sum is right, comes to both others.
func TestAForgedMessage(t *testing.T) {
	run := func(forged bool) *play {
		p := playing(t, setupOf(three, 2))
		p.do(submit(0, write(7, "a")), rounds(4))
		if _, is := p.answered(0); !is {
			t.Fatal("no answer")
		}
		p.clears()
		from := len(p.rows)
		b := frame(t, three, api.Msg{Kind: api.KindStartView, Node: 0, View: 3, Vector: make(api.Vector, 3)})
		if !forged {
			b[9] ^= 1 // the sum does not fit
		}
		p.comes(0, 1, b)
		p.comes(0, 2, b)
		p.do(submit(1, write(7, "b")), rounds(cluster.Bound(three)))
		if got, want := p.premises(), from; forged && got != premise(-1, -1, want) || !forged && got != premise(-1, -1, -1) {
			t.Fatal(got, want)
		}
		return p
	}
	run(false).keeps()
	p := run(true)
	p.loses(history.ErrLead)
}

// F + 1 at one time: nobody is ever answered again, and nothing is lost.
func TestMoreThanFewCrash(t *testing.T) {
	for _, c := range []api.Config{three, five, {F: 3, Room: 8, Patience: 6}} {
		for _, first := range []int{0, 1} {
			p := playing(t, setupOf(c, 2))
			p.do(submit(0, write(7, "a")), rounds(6))
			for node := range c.F + 1 {
				p.do(crash(first + node))
			}
			behind := len(p.rows)
			for node := range c.F + 1 {
				p.do(restart(first+node, lo(5), 0))
			}
			p.do(submit(1, write(7, "b")), query(0, 2*c.F, count), rounds(cluster.Bound(c)))
			if got := p.premises(); got != premise(behind-1, -1, -1) {
				t.Fatal(got, behind)
			}
			if slices.ContainsFunc(p.rows[behind:], func(row api.Seen) bool { return row.Kind == api.SeenReply || row.Kind == api.SeenBack }) {
				t.Fatal("somebody was answered, or returned")
			}
			if _, is := p.answered(1); is {
				t.Fatal("client 1 waits no more")
			}
			expect(t, p.setup, p.rows, -1, nil, eE)
			for node := range p.draws {
				s, _ := p.u.Look(node)
				if left := node < first || node > first+c.F; left && !slices.Equal(s.Log[:1], []api.Entry{eE}) {
					t.Fatal(node, "has lost it:", s)
				}
			}
		}
	}
}
