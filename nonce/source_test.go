package nonce_test

import (
	"math/rand/v2"
	"slices"
	"testing"

	"amnesia/api"
	"amnesia/nonce"
)

func wantDraw(t *testing.T, s nonce.Source, hi, lo uint64) {
	t.Helper()
	if d, e := s.Draw(); e != api.OK || d != (api.Draw{Hi: hi, Lo: lo}) {
		t.Fatalf("Draw: %v, %d, want %d.%d", d, e, hi, lo)
	}
}

func wantNoDraw(t *testing.T, s nonce.Source, want api.Errno) {
	t.Helper()
	if d, e := s.Draw(); e != want || d != (api.Draw{}) {
		t.Fatalf("Draw: %v, %d, want none and %d", d, e, want)
	}
}

func newPairs(t *testing.T, c *nonce.Clock) *nonce.Pairs {
	t.Helper()
	p, e := nonce.NewPairs(c)
	if e != api.OK || p == nil {
		t.Fatalf("NewPairs: %v, %d", p, e)
	}
	return p
}

// P2.3: a clock.

func TestClock(t *testing.T) {
	c := nonce.NewClock(5)
	for i, step := range []struct {
		set bool
		by  uint64
		e   api.Errno
		now uint64
	}{
		{true, 4, api.ErrPast, 5},
		{true, 0, api.ErrPast, 5},
		{true, 5, api.OK, 5},
		{false, 0, api.OK, 5},
		{false, 2, api.OK, 7},
		{false, top, api.ErrEnd, 7},
		{false, top - 6, api.ErrEnd, 7},
		{true, 9, api.OK, 9},
		{true, 8, api.ErrPast, 9},
		{false, top - 9, api.OK, top},
		{false, 1, api.ErrEnd, top},
		{false, top, api.ErrEnd, top},
		{false, 0, api.OK, top},
		{true, top - 1, api.ErrPast, top},
		{true, top, api.OK, top},
	} {
		call := c.Pass
		if step.set {
			call = c.Set
		}
		if e := call(step.by); e != step.e || c.Now() != step.now {
			t.Errorf("step %d: %d, now %d, want %d, now %d", i, e, c.Now(), step.e, step.now)
		}
	}
}

func TestClockBegins(t *testing.T) {
	for _, at := range []uint64{0, 1, 1 << 63, top} {
		if now := nonce.NewClock(at).Now(); now != at {
			t.Errorf("NewClock(%d).Now(): %d", at, now)
		}
	}
	c := nonce.NewClock(0)
	if c.Pass(top) != api.OK || c.Now() != top {
		t.Error("from the least to the greatest:", c.Now())
	}
}

// P2.4: a clock's readings with a count.

func TestPairs(t *testing.T) {
	c := nonce.NewClock(7)
	p := newPairs(t, c)
	wantDraw(t, p, 7, 1)
	wantDraw(t, p, 7, 2)
	if p.Pass(1) != api.OK || c.Now() != 8 || p.Now() != 8 {
		t.Fatal("the clock of a Pairs is the caller's")
	}
	wantDraw(t, p, 8, 1)
	p.Wipe()
	wantDraw(t, p, 8, 1)
	p.Wipe()
	c.Pass(1)
	wantDraw(t, p, 9, 1)
	if p.Set(8) != api.ErrPast || p.Set(20) != api.OK || c.Now() != 20 {
		t.Fatal("Set of a Pairs is the clock's")
	}
	wantDraw(t, p, 20, 1)
	wantDraw(t, p, 20, 2)
}

func TestPairsWithoutAClock(t *testing.T) {
	if p, e := nonce.NewPairs(nil); p != nil || e != api.ErrArg {
		t.Error(p, e)
	}
}

func TestPairsAtTheEndsOfTheClock(t *testing.T) {
	p := newPairs(t, nonce.NewClock(0))
	wantDraw(t, p, 0, 1)
	wantDraw(t, p, 0, 2)
	p.Set(top)
	wantDraw(t, p, top, 1)
	wantDraw(t, p, top, 2)
	p.Wipe()
	wantDraw(t, p, top, 1)
}

func TestPairsComeToTheirEndAtOneReading(t *testing.T) {
	p := newPairs(t, nonce.NewClock(3))
	for k := range uint64(api.MaxCount) {
		wantDraw(t, p, 3, k+1)
	}
	wantNoDraw(t, p, api.ErrEnd)
	wantNoDraw(t, p, api.ErrEnd)
	p.Pass(1)
	wantDraw(t, p, 4, 1)
	p.Wipe()
	wantDraw(t, p, 4, 1)
}

func TestWipeEndsTheEnd(t *testing.T) {
	p := newPairs(t, nonce.NewClock(3))
	if l, e := nonce.Take(p, api.MaxCount); e != api.OK || len(l) != api.MaxCount {
		t.Fatal(len(l), e)
	}
	wantNoDraw(t, p, api.ErrEnd)
	p.Wipe()
	if p.Now() != 3 {
		t.Error("Wipe has moved the clock")
	}
	wantDraw(t, p, 3, 1)
}

func TestPairsOverOneClockCountAlone(t *testing.T) {
	c := nonce.NewClock(1)
	p, q := newPairs(t, c), newPairs(t, c)
	wantDraw(t, p, 1, 1)
	wantDraw(t, p, 1, 2)
	wantDraw(t, q, 1, 1)
	q.Wipe()
	wantDraw(t, p, 1, 3)
	q.Pass(1)
	wantDraw(t, p, 2, 1)
	wantDraw(t, q, 2, 1)
}

// P2.5: mixed numbers.

func TestMixed(t *testing.T) {
	wantDraw(t, nonce.NewMixed(0), 0xe220a8397b1dcdaf, 0x6e789e6aa1b965f4)
	m := nonce.NewMixed(1234567)
	wantDraw(t, m, 6457827717110365317, 3203168211198807973)
	wantDraw(t, m, 9817491932198370423, 4593380528125082431)
	if d, e := m.Draw(); e != api.OK || d.Hi != 16408922859458223821 {
		t.Error("the fifth word:", d, e)
	}
}

func TestMixedStatesWrap(t *testing.T) {
	// Behind a step from the seed top - step + 1 the state is 0, whose word is 0; the next word is that of the seed 0.
	const step = 0x9e3779b97f4a7c15
	m := nonce.NewMixed(top - step + 1)
	wantDraw(t, m, 0, 0xe220a8397b1dcdaf)
	if d, e := m.Draw(); e != api.OK || d.Hi != 0x6e789e6aa1b965f4 {
		t.Error(d, e)
	}
	a, _ := nonce.Take(nonce.NewMixed(top), 5)
	b, _ := nonce.Take(nonce.NewMixed(top), 5)
	if !slices.Equal(a, b) {
		t.Error("one seed, two courses")
	}
}

func TestMixedKnowNothingOfEachOther(t *testing.T) {
	alone, _ := nonce.Take(nonce.NewMixed(9), 4)
	m, other := nonce.NewMixed(9), nonce.NewMixed(9)
	for _, d := range alone {
		wantDraw(t, m, d.Hi, d.Lo)
		nonce.Take(other, 3)
	}
}

// P2.6: a stream of given draws.

func TestStream(t *testing.T) {
	given := []api.Draw{{Hi: 1}, {}, {Hi: 1}, greatest}
	s := nonce.NewStream(given)
	given[1], given[3] = greatest, api.Draw{}
	for i, want := range []api.Draw{{Hi: 1}, {}, {Hi: 1}, greatest} {
		if s.Left() != 4-i {
			t.Fatalf("Left ahead of draw %d: %d", i, s.Left())
		}
		wantDraw(t, s, want.Hi, want.Lo)
	}
	for range 2 {
		if s.Left() != 0 {
			t.Error("Left behind the last:", s.Left())
		}
		wantNoDraw(t, s, api.ErrEnd)
	}
	if given[0] != (api.Draw{Hi: 1}) || given[1] != greatest {
		t.Error("the list was changed")
	}
}

func TestStreamOfNothing(t *testing.T) {
	for _, l := range [][]api.Draw{nil, {}} {
		s := nonce.NewStream(l)
		if s.Left() != 0 {
			t.Error(s.Left())
		}
		wantNoDraw(t, s, api.ErrEnd)
	}
}

// P2.7: so many draws of a source.

// steps is a source of a test's own: it counts its calls, and answers an error, beside a draw, from the call with the number bad on.
type steps struct {
	calls, bad int
	err        api.Errno
}

func (s *steps) Draw() (api.Draw, api.Errno) {
	s.calls++
	d := api.Draw{Lo: uint64(s.calls)}
	if s.calls >= s.bad {
		return d, s.err
	}
	return d, api.OK
}

func TestTake(t *testing.T) {
	s := nonce.NewStream([]api.Draw{{Hi: 1}, {Hi: 1}})
	if l, e := nonce.Take(s, 3); e != api.ErrEnd || !slices.Equal(l, []api.Draw{{Hi: 1}, {Hi: 1}}) || s.Left() != 0 {
		t.Error("example 6:", l, e)
	}
	if l, e := nonce.Take(s, 1); e != api.ErrEnd || len(l) != 0 {
		t.Error("behind the end:", l, e)
	}
	if l, e := nonce.Take(s, 0); e != api.OK || len(l) != 0 {
		t.Error("none behind the end:", l, e)
	}
	m := nonce.NewMixed(3)
	l, e := nonce.Take(m, 2)
	if e != api.OK || len(l) != 2 {
		t.Fatal(l, e)
	}
	both := nonce.NewMixed(3)
	wantDraw(t, both, l[0].Hi, l[0].Lo)
	wantDraw(t, both, l[1].Hi, l[1].Lo)
	next, _ := both.Draw()
	wantDraw(t, m, next.Hi, next.Lo)
}

func TestTakeOfWrongArguments(t *testing.T) {
	for _, n := range []int{-1, -1 << 63, api.MaxCount + 1, 1<<63 - 1} {
		s := &steps{bad: 1 << 17, err: api.ErrEnd}
		if l, e := nonce.Take(s, n); e != api.ErrArg || len(l) != 0 || s.calls != 0 {
			t.Errorf("Take(.., %d): %d draws, %d, %d calls", n, len(l), e, s.calls)
		}
	}
	for _, n := range []int{0, 1, -1} {
		if l, e := nonce.Take(nil, n); e != api.ErrArg || len(l) != 0 {
			t.Errorf("Take(nil, %d): %v, %d", n, l, e)
		}
	}
}

func TestTakeCallsNoMoreThanItMust(t *testing.T) {
	for _, c := range []struct {
		n, bad, calls, drawn int
		err, e               api.Errno
	}{
		{0, 1, 0, 0, api.ErrEnd, api.OK},
		{1, 2, 1, 1, api.ErrEnd, api.OK},
		{api.MaxCount, 1 << 62, api.MaxCount, api.MaxCount, api.ErrEnd, api.OK},
		{5, 4, 4, 3, api.ErrPast, api.ErrPast},
		{5, 1, 1, 0, api.Errno(-77), api.Errno(-77)},
		{5, 5, 5, 4, api.ErrEnd, api.ErrEnd},
	} {
		s := &steps{bad: c.bad, err: c.err}
		l, e := nonce.Take(s, c.n)
		if e != c.e || len(l) != c.drawn || s.calls != c.calls {
			t.Errorf("Take(.., %d) with an error at call %d: %d draws, %d, %d calls", c.n, c.bad, len(l), e, s.calls)
		}
		for i, d := range l {
			if d != (api.Draw{Lo: uint64(i + 1)}) {
				t.Fatalf("draw %d: %v", i, d)
			}
		}
	}
}

// hollow is a source that panics at its third draw.
type hollow struct {
	calls int
}

func (h *hollow) Draw() (api.Draw, api.Errno) {
	h.calls++
	return []api.Draw{{Lo: 1}, {Lo: 2}}[h.calls-1], api.OK
}

func TestTakeOutlivesASourceThatPanics(t *testing.T) {
	if l, e := nonce.Take(&hollow{}, 2); e != api.OK || len(l) != 2 {
		t.Error(l, e)
	}
	if l, e := nonce.Take(&hollow{}, 5); e == api.OK || !slices.Equal(l, []api.Draw{{Lo: 1}, {Lo: 2}}) {
		t.Error(l, e)
	}
	if l, e := nonce.Take(struct{ nonce.Source }{}, 1); e == api.OK || len(l) != 0 {
		t.Error(l, e)
	}
}

func TestTakeAnswersNewMemory(t *testing.T) {
	s := nonce.NewStream([]api.Draw{{Hi: 1}, {Hi: 2}, {Hi: 3}, {Hi: 4}})
	l, _ := nonce.Take(s, 2)
	l[0], l[1] = greatest, greatest
	_ = append(l[:2], greatest, greatest)
	wantDraw(t, s, 3, 0)
	wantDraw(t, s, 4, 0)
}

// P2.10: objects that are nil, or that no call made.

func TestNilSources(t *testing.T) {
	var c *nonce.Clock
	if c.Now() != 0 || c.Set(5) != api.OK || c.Set(0) != api.OK || c.Pass(top) != api.OK || c.Pass(1) != api.OK || c.Now() != 0 {
		t.Error("a nil Clock")
	}
	var p *nonce.Pairs
	var m *nonce.Mixed
	var s *nonce.Stream
	p.Wipe()
	if s.Left() != 0 {
		t.Error("a nil Stream:", s.Left())
	}
	for _, source := range []nonce.Source{p, m, s} {
		wantNoDraw(t, source, api.OK)
		if l, e := nonce.Take(source, 2); e != api.OK || !slices.Equal(l, make([]api.Draw, 2)) {
			t.Error(l, e)
		}
	}
}

func TestZeroValuesDoNotPanic(t *testing.T) {
	var c nonce.Clock
	c.Now()
	c.Set(3)
	c.Pass(top)
	var p nonce.Pairs
	p.Now()
	p.Set(3)
	p.Pass(top)
	p.Draw()
	p.Wipe()
	var m nonce.Mixed
	m.Draw()
	var s nonce.Stream
	s.Draw()
	s.Left()
	nonce.Take(&p, 3)
	nonce.Take(&m, 3)
	nonce.Take(&s, 3)
}

// P2.12: a clock that passes makes fresh draws.

func TestDrawsOfAClockThatPassesRise(t *testing.T) {
	r := rand.New(rand.NewPCG(2, 12))
	for range 300 {
		p := newPairs(t, nonce.NewClock(r.Uint64()>>1))
		var last api.Draw
		wiped, wipedAt := false, uint64(0)
		for range 60 {
			switch r.IntN(5) {
			case 0:
				p.Wipe()
				wiped, wipedAt = true, p.Now()
			case 1:
				p.Pass(r.Uint64N(3))
			case 2:
				p.Set(p.Now() + r.Uint64N(3) - 1)
			default:
				if wiped && p.Now() == wipedAt {
					p.Pass(1)
				}
				wiped = false
				d, e := p.Draw()
				if e != api.OK || nonce.Compare(d, last) != 1 {
					t.Fatalf("%v behind %v: %d", d, last, e)
				}
				last = d
			}
		}
	}
}

func TestDrawBehindAWipeAtOneReadingComesAgain(t *testing.T) {
	r := rand.New(rand.NewPCG(2, 13))
	for range 200 {
		at := r.Uint64()
		p := newPairs(t, nonce.NewClock(at))
		n := 1 + r.IntN(5)
		earlier, e := nonce.Take(p, n)
		if e != api.OK {
			t.Fatal(e)
		}
		p.Wipe()
		p.Set(at)
		p.Pass(0)
		wantDraw(t, p, at, 1)
		if !slices.Contains(earlier, api.Draw{Hi: at, Lo: 1}) {
			t.Fatal(earlier)
		}
	}
}
