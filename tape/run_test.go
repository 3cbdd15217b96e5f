package tape_test

import (
	"slices"
	"testing"

	"amnesia/api"
	"amnesia/cluster"
	"amnesia/engine"
	"amnesia/history"
	"amnesia/tape"
)

// G11 of DOC.md, as far as it speaks of tapes: what is read from a run's tape is played to the same rows; what is saved of a tape that was cut off is played to a beginning of them.

// expectSameRun: the tape's recording is the run.
func (p *play) expectSameRun() []byte {
	p.t.Helper()
	expectTaped(p.t, p.tape, p.setup, p.events...)
	b := p.tape.Bytes()
	s, events, e, _ := tape.Read(b)
	if e != api.OK {
		p.t.Fatal(e)
	}
	expectPlayed(p.t, "read", s, events, p.rows)
	s, events, _ = tape.Salvage(b)
	expectPlayed(p.t, "saved", s, events, p.rows)
	return b
}

// expectBeginning: what is saved of a file that was cut off or spoilt is played to a beginning of the rows; how many events that is.
func (p *play) expectBeginning(what string, b []byte) int {
	p.t.Helper()
	s, events, n := tape.Salvage(b)
	if n == 0 {
		if len(events) != 0 || !sameSetup(s, api.Setup{}) {
			p.t.Fatal(what, s, events)
		}
		return 0
	}
	if !sameSetup(s, p.setup) || len(events) > len(p.events) {
		p.t.Fatal(what, s, len(events))
	}
	expectPlayed(p.t, what, s, events, p.rows[:p.behind[len(events)]])
	return len(events)
}

func TestATapeIsTheRun(t *testing.T) {
	t.Parallel()
	met := make(map[api.EventKind]int)
	seen := make(map[api.SeenKind]int)
	for seed := range uint64(45) {
		r := seeded(1000 + seed)
		p := someRun(t, r, r.IntN(600), seed%3 > 0)
		b := p.expectSameRun()
		for _, e := range p.events {
			met[e.Kind]++
		}
		for _, row := range p.rows {
			seen[row.Kind]++
		}
		// What Seek answers is the run's, too.
		for range 20 {
			from := r.IntN(len(p.events) + 1)
			count := r.IntN(len(p.events) + 1 - from)
			var want []api.Event
			for _, e := range p.events[from : from+count] {
				want = append(want, plain(e))
			}
			expectSought(t, "a run", b, from, count, want...)
		}
		for range 6 {
			cut := r.IntN(len(b))
			p.expectBeginning("cut off", b[:cut])
			bad := slices.Clone(b)
			bad[cut] ^= byte(1 + r.IntN(255))
			if _, _, e, _ := tape.Read(bad); e == api.OK {
				t.Fatal("a byte is turned, and it is read:", cut)
			}
			p.expectBeginning("spoilt", bad)
		}
	}
	for _, k := range eachKind() {
		if met[k] < 30 {
			t.Error("too few:", k, met)
		}
	}
	expectEnough(t, seen, map[api.SeenKind]int{api.SeenReply: 80, api.SeenLead: 8, api.SeenBack: 15, api.SeenDown: 60, api.SeenUp: 30, api.SeenTold: 80})
}

// Cut off behind every chunk, and at every place of a shorter one.
func TestACutTapeIsABeginning(t *testing.T) {
	t.Parallel()
	for seed := range uint64(6) {
		r := seeded(2000 + seed)
		p := someRun(t, r, 330, true)
		b := p.expectSameRun()
		l, _ := frames(t, b)
		saved := make(map[int]bool)
		for _, end := range ends(l) {
			for _, cut := range []int{end - 1, end, min(end+1, len(b))} {
				saved[p.expectBeginning("cut off", b[:cut])] = true
			}
		}
		if len(saved) != len(l)-1 {
			t.Fatal("not a beginning for each chunk:", saved)
		}
	}
	p := playing(t, setupOf(three, 0, 0))
	for _, e := range []api.Event{submit(0, write(7, "a")), round(4), submit(1, write(7, "b")), round(3), crash(0), round(9), restart(0, api.Draw{Lo: 5}), round(3)} {
		p.do(e)
	}
	for i := range 40 {
		p.do(api.Event{Kind: api.EventTick, Node: i % 3})
	}
	b := p.expectSameRun()
	for cut := range b {
		p.expectBeginning("cut off", b[:cut])
	}
	p.expectSaidBeforeEachEvent()
}

// The file, asked ahead of each event, is the run's up to there.
func (p *play) expectSaidBeforeEachEvent() {
	p.t.Helper()
	x := taped(p.t, p.setup)
	for i, e := range p.events {
		_, events, err, _ := tape.Read(x.Bytes())
		if err != api.OK {
			p.t.Fatal(err)
		}
		expectPlayed(p.t, "in the midst", p.setup, events, p.rows[:p.behind[i]])
		x.Add(e)
	}
}

// A tape takes events that the cluster refuses: they are refused when they are played.
func TestEventsThatTheClusterRefuses(t *testing.T) {
	t.Parallel()
	r := seeded(9)
	refused := make(map[api.Errno]int)
	for range 300 {
		s := pick(r, someSetups()...)
		var events []api.Event
		for range r.IntN(40) {
			events = append(events, goodEvent(r))
		}
		if r.IntN(2) == 0 {
			events = append(slices.Repeat([]api.Event{{Kind: api.EventTick, Node: 1}, round(1)}, r.IntN(20)), events...)
		}
		_, read, e, _ := tape.Read(file(t, s, events...))
		if e != api.OK {
			t.Fatal(e)
		}
		rows, at, e := cluster.Run(s, events)
		again, atAgain, eAgain := cluster.Run(s, read)
		if at != atAgain || e != eAgain || !slices.EqualFunc(rows, again, sameRow) {
			t.Fatal(at, atAgain, e, eAgain)
		}
		refused[e]++
	}
	expectEnough(t, refused, map[api.Errno]int{api.ErrEvent: 100})
}

// As long a run as there may be.
func TestTheLongestRun(t *testing.T) {
	t.Parallel()
	p := someRun(t, seeded(10), api.MaxEvents, true)
	if _, e := p.u.Do(round(1)); e != api.ErrEvents {
		t.Fatal(e)
	}
	if e := p.tape.Add(round(1)); e != api.ErrEvents {
		t.Fatal(e)
	}
	b := p.expectSameRun()
	for _, cut := range []int{len(b) / 3, len(b) - 60} {
		if p.expectBeginning("cut off", b[:cut]) == 0 {
			t.Fatal(cut)
		}
	}
}

// What the judge says of a run it says of its tape, premises and faults.
func TestTheJudgeOfATape(t *testing.T) {
	lost := "group 1 4 6 unguarded\nclient 0\nsubmit 0 write 7 61\nround 4\ncrash 0\nround 6\nrestart 0 0.5\nround 9\n"
	again := "group 1 4 6\nclient 0\nsubmit 0 write 7 61\nround 4\ncrash 0\nrestart 0 0.5\nround 9\ncrash 0\nrestart 0 0.5\nround 9\n"
	for _, text := range []string{lost, again} {
		s, events, _, e := engine.Parse(text)
		if e != api.OK {
			t.Fatal(e)
		}
		rows, _, e := cluster.Run(s, events)
		if e != api.OK {
			t.Fatal(e)
		}
		gotS, got, e, _ := tape.Read(file(t, s, events...))
		if e != api.OK {
			t.Fatal(e)
		}
		if told, e := engine.Print(gotS, got); e != api.OK || told != text {
			t.Fatal(told, e)
		}
		expectPlayed(t, "a script", gotS, got, rows)
		premises, e := history.Premises(s.Config, rows)
		if e != api.OK || (text == again) != (premises.Fresh != -1) {
			t.Fatal(premises, e)
		}
	}
}
