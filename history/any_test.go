package history_test

import (
	"math"
	"math/rand/v2"
	"slices"
	"testing"

	"amnesia/api"
	"amnesia/history"
)

// Any rows, held against the model: such as a run might have, with a wrong one now and then.

// maker makes rows, one behind the other, and knows what they come to if none is a fault.
type maker struct {
	r        *rand.Rand
	t        *testing.T
	c        api.Config
	wrong    int // out of 100, how often a row is made wrong in some way
	top      int // the greatest view that was started
	asked    []api.Entry
	sequence []api.Entry
	frames   [][]byte
	rows     []api.Seen
}

func making(t *testing.T, r *rand.Rand, wrong int) *maker {
	t.Helper()
	m := &maker{r: r, t: t, c: pick(r, three, three, five), wrong: wrong}
	n := 2*m.c.F + 1
	m.frames = [][]byte{recovery(t, m.c, 0, lo(1)), recovery(t, m.c, n-1, lo(2)), commit(t, m.c), []byte("no frame"), nil}
	return m
}

func (m *maker) errs() bool { return m.r.IntN(100) < m.wrong }

func (m *maker) node() int { return m.r.IntN(2*m.c.F + 1) }

// view: not below those that were started; wrong: any, of few, so that they are met again.
func (m *maker) view() int {
	switch {
	case !m.errs():
		return m.top + m.r.IntN(2)
	case m.r.IntN(10) == 0:
		return pick(m.r, farNumbers...)
	}
	return m.r.IntN(m.top + 3)
}

func (m *maker) op() api.Op {
	return pick(m.r, write(m.r.IntN(3), pick(m.r, "a", "b", "")), add("x"), read(m.r.IntN(4)), count, api.Op{Kind: 7})
}

func (m *maker) entry() api.Entry { return entry(m.r.IntN(3), 1+m.r.IntN(6), m.op()) }

// next: an entry that was asked, and that the sequence has not; false: there is none.
func (m *maker) next() (api.Entry, bool) {
	for _, i := range m.r.Perm(len(m.asked)) {
		if e := m.asked[i]; placeOf(m.sequence, e.Client, e.Number) == 0 {
			return e, true
		}
	}
	return api.Entry{}, false
}

func (m *maker) done() api.Seen {
	if m.errs() {
		end := len(m.sequence)
		return done(m.node(), m.view(), pick(m.r, 0, -1, end+2, end+1, end+1, 1+m.r.IntN(end+1)), pick(m.r, append(m.asked, m.entry())...))
	}
	if e, is := m.next(); is && m.r.IntN(2) == 0 {
		return done(m.node(), m.view(), len(m.sequence)+1, e)
	}
	if len(m.sequence) == 0 {
		return asked(m.entry())
	}
	place := 1 + m.r.IntN(len(m.sequence))
	return done(m.node(), m.view(), place, m.sequence[place-1])
}

// log: the sequence and something behind it; wrong: cut, or with another entry in it.
func (m *maker) log() []api.Entry {
	log := slices.Clone(m.sequence)
	for range m.r.IntN(3) {
		log = append(log, m.entry())
	}
	if len(log) == 0 || !m.errs() {
		return log
	}
	if m.r.IntN(2) == 0 {
		return log[:m.r.IntN(len(log))]
	}
	log[m.r.IntN(len(log))] = m.entry()
	return log
}

func (m *maker) reply() api.Seen {
	if len(m.sequence) == 0 {
		return asked(m.entry())
	}
	place := 1 + m.r.IntN(len(m.sequence))
	e, result := m.sequence[place-1], answerAt(m.sequence, place)
	if m.errs() {
		return reply(m.r.IntN(3), 1+m.r.IntN(4), result)
	}
	return reply(e.Client, e.Number, result)
}

func (m *maker) told() api.Seen {
	place, op := len(m.sequence), m.op()
	if m.errs() {
		place = m.r.IntN(len(m.sequence)+3) - 1
	}
	result := readingAt(m.sequence, min(max(place, 0), len(m.sequence)), op)
	if m.errs() && m.errs() {
		result.Code++
	}
	row := toldOf(m.r.IntN(3), place, op, result)
	row.Node = m.node()
	return row
}

func (m *maker) packet() api.Packet {
	frame := pick(m.r, m.frames...)
	return api.Packet{From: pick(m.r, m.node(), m.node(), m.r.IntN(7), 7), To: pick(m.r, m.r.IntN(3), 7), Bytes: slices.Clone(frame)}
}

func (m *maker) sent() api.Seen {
	p := m.packet()
	switch {
	case p.From >= 2*m.c.F+1:
	case m.errs() || !recoversIn(m.rows, p.From):
		p.Bytes = slices.Clone(pick(m.r, m.frames[2:]...))
	default:
		p.Bytes = slices.Clone(m.frames[0])
	}
	return sent(p)
}

func (m *maker) row() api.Seen {
	switch m.r.IntN(16) {
	case 0, 1, 2:
		return asked(m.entry())
	case 3:
		return m.sent()
	case 4:
		return taken(m.packet())
	case 5, 6, 7, 8:
		return m.done()
	case 9:
		return lead(m.node(), m.view(), m.log()...)
	case 10, 11:
		return m.reply()
	case 12:
		return down(m.node())
	case 13:
		return up(m.node(), pick(m.r, lo(uint64(len(m.rows)+1)), lo(m.r.Uint64N(5)), api.Draw{Hi: m.r.Uint64N(2), Lo: m.r.Uint64N(2)}))
	case 14:
		return back(m.node(), m.view(), m.log()...)
	}
	return m.told()
}

func (m *maker) lays(row api.Seen) {
	switch {
	case row.Kind == api.SeenAsked:
		m.asked = append(m.asked, row.Entry)
	case row.Kind == api.SeenDone && row.Place == len(m.sequence)+1:
		m.sequence = append(m.sequence, row.Entry)
	case row.Kind == api.SeenLead && row.View < 1000: // beyond that nobody goes on
		m.top = max(m.top, row.View+1)
	}
	m.rows = append(m.rows, row)
}

// someRows: so many; if they are to be well, a row that would be a fault is left out.
func someRows(t *testing.T, r *rand.Rand, many int, well bool) (api.Setup, []api.Seen) {
	t.Helper()
	m := making(t, r, pick(r, 0, 2, 5, 20))
	s := setupOf(m.c, r.IntN(3))
	for tries := 0; len(m.rows) < many; tries++ {
		if tries > 100*many {
			t.Fatal("hardly a row is well")
		}
		row := m.row()
		if well {
			if j, _ := history.Judge(s, append(slices.Clone(m.rows), row)); j.Fault >= 0 {
				continue
			}
		}
		m.lays(row)
	}
	return s, m.rows
}

func TestAnyRows(t *testing.T) {
	t.Parallel()
	met, premises := make(map[error]int), make(map[string]int)
	for seed := range uint64(6000) {
		r := seeded(seed)
		s, rows := someRows(t, r, 1+r.IntN(100), false)
		sequence, fault, why := model(s.Config, rows)
		met[why]++
		expect(t, s, rows, fault, why, sequence...)
		want := modelPremises(s.Config, rows)
		expectPremises(t, s.Config, rows, want)
		for name, row := range map[string]int{"few": want.Few, "fresh": want.Fresh, "genuine": want.Genuine} {
			if row >= 0 {
				premises[name]++
			} else {
				premises["kept "+name]++
			}
		}
	}
	least := map[error]int{nil: 100}
	for _, why := range whys()[1:] {
		least[why] = 30
	}
	expectEnough(t, met, least)
	expectEnough(t, premises, map[string]int{"few": 100, "fresh": 100, "genuine": 100, "kept few": 100, "kept fresh": 100, "kept genuine": 100})
}

// Rows without a fault may be as many as they like.
func TestLongRowsWithoutAFault(t *testing.T) {
	t.Parallel()
	for seed := range uint64(30) {
		s, rows := someRows(t, seeded(10000+seed), 150, true)
		sequence, fault, why := model(s.Config, rows)
		if fault != -1 || len(sequence) < 3 {
			t.Fatal(seed, fault, why, sequence)
		}
		expect(t, s, rows, -1, nil, sequence...)
	}
}

// Nothing is too much: more entries than a log has room for, numbers at their ends.
func TestAGreatSequence(t *testing.T) {
	var rows []api.Seen
	var sequence []api.Entry
	for i := range 3000 {
		e := entry(i%5, math.MaxInt-i, add("v"))
		sequence = append(sequence, e)
		rows = append(rows, asked(e), done(i%3, i, i+1, e))
	}
	rows = append(rows, lead(0, math.MaxInt, sequence...), reply(1, math.MaxInt-1026, res(api.ResFull, 0, "")), reply(3, math.MaxInt-1023, res(api.ResWritten, 1023, "v")))
	rows = append(rows, toldOf(2, 3000, count, res(api.ResCount, 1024, "")), toldOf(2, 3000, add("w"), res(api.ResFull, 0, "")), up(2, lo(1)), back(2, 5, sequence...))
	expect(t, setup, rows, -1, nil, sequence...)
	expect(t, setup, append(rows, back(2, 5, sequence[:2999]...)), len(rows), history.ErrForgot, sequence...)
}
