package rejoin_test

import (
	"math/rand/v2"
	"reflect"
	"strconv"
	"strings"
	"sync"
	"testing"

	"amnesia/api"
	"amnesia/core"
	"amnesia/message"
	"amnesia/rejoin"
)

// P2 of DOC.md: whose memory is whose. P1 and P3 too.

// eachList: every list that a value reaches, those that lie in a list's spare room too.
func eachList(v reflect.Value, visit func(reflect.Value)) {
	switch v.Kind() {
	case reflect.Struct:
		for i := range v.NumField() {
			eachList(v.Field(i), visit)
		}
	case reflect.Slice:
		visit(v)
		whole := v.Slice(0, v.Cap())
		for i := range whole.Len() {
			eachList(whole.Index(i), visit)
		}
	}
}

// eachPart: every number, text and list that a value has, wherever it lies.
func eachPart(v reflect.Value, visit func(reflect.Value)) {
	switch v.Kind() {
	case reflect.Struct:
		for i := range v.NumField() {
			eachPart(v.Field(i), visit)
		}
	case reflect.Slice:
		visit(v)
		for i := range v.Len() {
			eachPart(v.Index(i), visit)
		}
	default:
		visit(v)
	}
}

// span is a piece of memory: of lists that have room for nothing there is none.
type span struct{ from, to uintptr }

func spans(things ...any) []span {
	var l []span
	for _, thing := range things {
		eachList(reflect.ValueOf(thing), func(list reflect.Value) {
			if list.Cap() > 0 {
				l = append(l, span{list.Pointer(), list.Pointer() + uintptr(list.Cap())*list.Type().Elem().Size()})
			}
		})
	}
	return l
}

// expectApart: no list of an answer lies over another one of it, nor over one of what was given.
func expectApart(t *testing.T, what string, answer any, given ...any) {
	t.Helper()
	mine, theirs := spans(answer), spans(given...)
	for i, a := range mine {
		for _, b := range append(theirs, mine[:i]...) {
			if a.from < b.to && b.from < a.to {
				t.Fatalf("%s: an answer lies over something else: %+v", what, answer)
			}
		}
	}
}

// dump: all that a value reaches as text; with spare room, if it is asked for.
func dump(v reflect.Value, spare bool, b *strings.Builder) {
	switch v.Kind() {
	case reflect.Struct:
		for i := range v.NumField() {
			dump(v.Field(i), spare, b)
		}
	case reflect.Slice:
		b.WriteString("[" + strconv.Itoa(v.Len()) + ":")
		if spare {
			v = v.Slice(0, v.Cap())
		}
		for i := range v.Len() {
			dump(v.Index(i), spare, b)
		}
		b.WriteString("]")
	case reflect.String:
		b.WriteString(strconv.Quote(v.String()))
	case reflect.Uint64:
		b.WriteString(strconv.FormatUint(v.Uint(), 10) + " ")
	default:
		b.WriteString(strconv.FormatInt(v.Int(), 10) + " ")
	}
}

func dumped(spare bool, things ...any) string {
	var b strings.Builder
	for _, thing := range things {
		dump(reflect.ValueOf(thing), spare, &b)
	}
	return b.String()
}

// spoil writes over all that a value's lists reach, their spare room too.
func spoil(thing any) {
	eachList(reflect.ValueOf(thing), func(list reflect.Value) {
		whole := list.Slice(0, list.Cap())
		for i := range whole.Len() {
			eachPart(whole.Index(i), func(part reflect.Value) {
				switch part.Kind() {
				case reflect.Int:
					part.SetInt(-99)
				case reflect.Uint64:
					part.SetUint(99)
				case reflect.String:
					part.SetString("spoilt")
				}
			})
		}
	})
}

func behind[E any](l []E, more ...E) []E {
	return append(append(make([]E, 0, len(l)+len(more)), l...), more...)[:len(l)]
}

// roomy: the state with room behind all its lists, and something in it.
func roomy(s api.State) api.State {
	s = own(s)
	s.Log, s.Vector = behind(s.Log, logOf(2)...), behind(s.Vector, lo(77), lo(78))
	s.Acks = behind(s.Acks, api.Ack{Node: 7, Draw: lo(77), Place: 7})
	s.Marks = behind(s.Marks, api.Mark{Node: 7, Draw: lo(77)})
	s.Ballots = behind(s.Ballots, api.Ballot{Node: 7, Draw: lo(77), Last: 7, Commit: 7, Log: logOf(1)})
	s.Answers = behind(s.Answers, api.Answer{Node: 7, Draw: lo(77), View: 7, Commit: 7, Log: logOf(1)})
	for i := range s.Ballots {
		s.Ballots[i].Log = behind(s.Ballots[i].Log, logOf(2)...)
	}
	for i := range s.Answers {
		s.Answers[i].Log = behind(s.Answers[i].Log, logOf(2)...)
	}
	return s
}

func roomyMsg(m api.Msg) api.Msg {
	m.Log, m.Vector = behind(m.Log, logOf(2)...), behind(m.Vector, lo(77), lo(78))
	return m
}

// both is an answer of two lists that must lie apart.
type both struct {
	State api.State
	Sends []api.Send
}

// Two kinds that there aren't stand for the calls without a message.
const (
	starting api.Kind = -1
	ticking  api.Kind = -2
)

// answer: what the message's call answers.
func answer(c api.Config, s api.State, m api.Msg) both {
	switch m.Kind {
	case starting:
		s, l, _ := rejoin.Start(c, s.Self, m.Draw)
		return both{s, l}
	case ticking:
		s, l, _ := rejoin.Ask(c, s)
		return both{s, l}
	}
	behind, l, _ := calls()[m.Kind](c, s, m)
	return both{behind, l}
}

func someCall(r *rand.Rand, c api.Config, s api.State) api.Msg {
	switch r.IntN(20) {
	case 0:
		return api.Msg{Kind: starting, Draw: pick(r, lo(4), api.Draw{Hi: 3})}
	case 1, 2:
		return api.Msg{Kind: ticking}
	}
	return someMsg(r, c, s, pick(r, kinds()...))
}

func TestWhoseMemory(t *testing.T) {
	r := rand.New(rand.NewPCG(12, 9))
	for range 6000 {
		c := pick(r, configs()...)
		s := roomy(someState(r, c))
		m := roomyMsg(someCall(r, c, s))
		before := dumped(true, s, m)
		got := answer(c, s, m)
		want, again := dumped(true, got), answer(c, s, m)
		expectApart(t, "answer", got, s, m, again)
		spoil(again)
		if dumped(true, got) != want || dumped(true, s, m) != before || dumped(true, answer(c, s, m)) != want {
			t.Fatal("what is spoilt of one answer is seen elsewhere")
		}
		spoil(s)
		spoil(m)
		if dumped(true, got) != want {
			t.Fatal("an answer has turned with what was given")
		}
	}
}

// Lists that were given as one are answered as lists of their own.
func TestSharedListsAreParted(t *testing.T) {
	log, v := logOf(6), make(api.Vector, 7)
	v[3] = lo(5)
	answers := []api.Answer{{Node: 0, View: 7, Log: log[:2]}, {Node: 1, View: 1, Log: log[:4]}, {Node: 2, View: 6}}
	states := []api.State{
		{Self: 1, Status: api.StatusNormal, View: 8, Last: 8, Log: log[:4:6], Commit: 1, Vector: v, Acks: []api.Ack{{Node: 0, Place: 3}, {Node: 2, Place: 4}}},
		{Self: 3, Status: api.StatusNormal, View: 8, Last: 8, Log: log[:4:6], Commit: 1, Vector: v},
		{Self: 3, Status: api.StatusChange, View: 8, Log: log[:4:6], Vector: v, Marks: []api.Mark{{Node: 0}, {Node: 2}}},
		{Self: 3, Status: api.StatusRecovering, Vector: v, Answers: answers},
	}
	for _, s := range states {
		if e := core.Check(seven, s); e != api.OK {
			t.Fatal(e)
		}
		for _, m := range []api.Msg{
			{Kind: starting, Draw: lo(5)}, {Kind: ticking},
			{Kind: api.KindRecovery, Node: 3, Draw: lo(5), Vector: v},
			{Kind: api.KindRecoveryResponse, Node: 4, View: 4, Draw: lo(5), Log: log[:5], Vector: v},             // another one's log is taken over
			{Kind: api.KindRecoveryResponse, Node: 4, View: 11, Draw: lo(5), Log: log[:5], Commit: 2, Vector: v}, // its own
			{Kind: api.KindRecoveryResponse, Node: 4, View: 12, Draw: lo(5), Vector: v},                          // none
			{Kind: api.KindGetState, Node: 4, View: 8, Vector: v},
			{Kind: api.KindNewState, Node: 4, View: 8, Log: log[:5], Vector: v},
			{Kind: api.KindNewState, Node: 4, View: 9, Commit: 5, Log: log[:5], Vector: v},
		} {
			expectApart(t, "shared", answer(seven, s, m), s, m)
		}
	}
	want := make(api.Vector, 7)
	want[3] = lo(5)
	if dumped(true, log) != dumped(true, logOf(6)) || dumped(false, v) != dumped(false, want) {
		t.Error("what was given is changed")
	}
}

// P3 of DOC.md: nil and empty lists are the same as arguments.
func TestNilAndEmpty(t *testing.T) {
	full := func(s api.State) api.State {
		s = own(s)
		s.Log = append([]api.Entry{}, s.Log...)
		s.Acks, s.Marks = append([]api.Ack{}, s.Acks...), append([]api.Mark{}, s.Marks...)
		s.Ballots, s.Answers = append([]api.Ballot{}, s.Ballots...), append([]api.Answer{}, s.Answers...)
		for i, b := range s.Ballots {
			s.Ballots[i].Log = append([]api.Entry{}, b.Log...)
		}
		for i, a := range s.Answers {
			s.Answers[i].Log = append([]api.Entry{}, a.Log...)
		}
		return s
	}
	r := rand.New(rand.NewPCG(12, 10))
	for range 3000 {
		c := pick(r, configs()...)
		s := someState(r, c)
		m := someCall(r, c, s)
		other := changedMsg(m, func(m *api.Msg) { m.Log, m.Vector = append([]api.Entry{}, m.Log...), append(api.Vector{}, m.Vector...) })
		if dumped(false, answer(c, own(s), m)) != dumped(false, answer(c, full(s), other)) {
			t.Fatalf("%+v at %+v", m, s)
		}
	}
}

// P1 and P5 of DOC.md: every call ends and none panics, whatever it is given, and beside an error there is nothing.
func TestEveryCallEnds(t *testing.T) {
	r := rand.New(rand.NewPCG(12, 11))
	wild := func() int { return pick(r, edges...) }
	met := make(map[api.Errno]int)
	for range 20000 {
		c := api.Config{F: wild(), Room: wild(), Patience: wild(), Unguarded: r.IntN(2) == 0}
		if r.IntN(8) > 0 {
			c = pick(r, configs()...)
		}
		group := pick(r, configs()...)
		if core.CheckConfig(c) == api.OK {
			group = c
		}
		s := someState(r, group)
		m := someMsg(r, group, s, pick(r, kinds()...))
		turned := func(thing any, one int) {
			eachPart(reflect.ValueOf(thing).Elem(), func(part reflect.Value) {
				if part.Kind() == reflect.Int && r.IntN(one) == 0 {
					part.SetInt(int64(wild()))
				}
				if part.Kind() == reflect.Slice && r.IntN(2*one) == 0 {
					part.SetZero()
				}
			})
		}
		switch r.IntN(3) {
		case 0:
			turned(&s, 10)
		case 1:
			turned(&m, 10)
		}
		for k, f := range calls() {
			want := core.Check(c, s)
			if want == api.OK && m.Kind != k {
				want = api.ErrKind
			}
			if want == api.OK {
				want = message.Check(c, m)
			}
			got, l, e := f(c, s, m)
			if e != want || e != api.OK && (!isZero(got) || len(l) > 0) {
				t.Fatalf("%d, want %d: %+v %+v", e, want, got, l)
			}
			met[e]++
		}
		want := core.Check(c, s)
		if want == api.OK && s.Status != api.StatusRecovering {
			want = api.ErrStatus
		}
		if got, l, e := rejoin.Ask(c, s); e != want || e != api.OK && (!isZero(got) || len(l) > 0) {
			t.Fatalf("%d, want %d: %+v %+v", e, want, got, l)
		}
		self, draw := pick(r, wild(), r.IntN(7)), someDraw(r)
		_, want = core.Reborn(c, self, draw)
		if got, l, e := rejoin.Start(c, self, draw); e != want || e != api.OK && (!isZero(got) || len(l) > 0) {
			t.Fatalf("%d, want %d: %+v %+v", e, want, got, l)
		}
	}
	for _, e := range []api.Errno{api.OK, api.ErrConfig, api.ErrState, api.ErrKind, api.ErrField} {
		if met[e] < 500 {
			t.Error("too few:", e, met)
		}
	}
	huge := api.State{Log: make([]api.Entry, 100000), Vector: make(api.Vector, 100000), Acks: make([]api.Ack, 100000)}
	rejoin.Ask(five, huge)
	rejoin.Recovery(five, huge, recovery(1))
	for k, f := range calls() {
		f(five, aBackup(), api.Msg{Kind: k, View: 6, Vector: make(api.Vector, 100000), Log: make([]api.Entry, 100000)})
	}
}

// Calls side by side, over the same arguments, answer what they answer alone.
func TestSideBySide(t *testing.T) {
	msgs := []api.Msg{{Kind: starting, Draw: lo(3)}, {Kind: ticking}, recovery(2), response(2, 7, 2, logOf(4)), response(2, 8, 0, nil), getState(2, 6), newState(2, 8, 1, logOf(4))}
	states := []api.State{aPrimary(), aBackup(), aChangingBackup(), aRecovering()}
	var want []string
	for _, s := range states {
		for _, m := range msgs {
			want = append(want, dumped(true, answer(five, s, m)))
		}
	}
	var wait sync.WaitGroup
	for range 8 {
		wait.Go(func() {
			for range 50 {
				for i, s := range states {
					for j, m := range msgs {
						if dumped(true, answer(five, s, m)) != want[i*len(msgs)+j] {
							t.Error(m, "answers otherwise")
						}
					}
				}
			}
		})
	}
	wait.Wait()
}
