package core_test

import (
	"math"
	"math/rand/v2"
	"reflect"
	"strconv"
	"strings"
	"sync"
	"testing"

	"amnesia/api"
	"amnesia/core"
)

// P9.6: whose memory is whose (P2 of DOC.md).

// eachList: every list that a value reaches, those that lie in a list's spare room too.
func eachList(v reflect.Value, visit func(reflect.Value)) {
	switch v.Kind() {
	case reflect.Struct:
		for i := range v.NumField() {
			eachList(v.Field(i), visit)
		}
	case reflect.Slice:
		visit(v)
		whole := v.Slice(0, v.Cap())
		for i := range whole.Len() {
			eachList(whole.Index(i), visit)
		}
	}
}

// span is a piece of memory: of lists that have room for nothing there is none.
type span struct{ from, to uintptr }

func spans(things ...any) []span {
	var l []span
	for _, thing := range things {
		eachList(reflect.ValueOf(thing), func(list reflect.Value) {
			if list.Cap() > 0 {
				l = append(l, span{list.Pointer(), list.Pointer() + uintptr(list.Cap())*list.Type().Elem().Size()})
			}
		})
	}
	return l
}

// expectApart: no list of an answer lies over another one of it, nor over one of what was given.
func expectApart(t *testing.T, what string, answer any, given ...any) {
	t.Helper()
	mine, theirs := spans(answer), spans(given...)
	for i, a := range mine {
		for _, b := range append(theirs, mine[:i]...) {
			if a.from < b.to && b.from < a.to {
				t.Fatalf("%s: an answer lies over something else: %+v", what, answer)
			}
		}
	}
}

// dump: all that a value reaches as text, spare room too.
func dump(v reflect.Value, b *strings.Builder) {
	switch v.Kind() {
	case reflect.Struct:
		for i := range v.NumField() {
			dump(v.Field(i), b)
		}
	case reflect.Slice:
		b.WriteString("[" + strconv.Itoa(v.Len()) + ":")
		for i := range v.Cap() {
			dump(v.Slice(0, v.Cap()).Index(i), b)
		}
		b.WriteString("]")
	case reflect.String:
		b.WriteString(strconv.Quote(v.String()))
	case reflect.Uint64:
		b.WriteString(strconv.FormatUint(v.Uint(), 10) + " ")
	default:
		b.WriteString(strconv.FormatInt(v.Int(), 10) + " ")
	}
}

func dumped(things ...any) string {
	var b strings.Builder
	for _, thing := range things {
		dump(reflect.ValueOf(thing), &b)
	}
	return b.String()
}

// spoil writes over all that a value's lists reach, their spare room too.
func spoil(thing any) {
	eachList(reflect.ValueOf(thing), func(list reflect.Value) {
		whole := list.Slice(0, list.Cap())
		for i := range whole.Len() {
			eachPart(whole.Index(i), func(part reflect.Value) {
				switch part.Kind() {
				case reflect.Int:
					part.SetInt(-99)
				case reflect.Uint64:
					part.SetUint(99)
				case reflect.String:
					part.SetString("spoilt")
				}
			})
		}
	})
}

func behind[E any](l []E, more ...E) []E {
	return append(append(make([]E, 0, len(l)+len(more)), l...), more...)[:len(l)]
}

// roomy: the state with room behind all its lists, and something in it.
func roomy(s api.State) api.State {
	s = own(s)
	s.Log, s.Vector = behind(s.Log, logOf(2)...), behind(s.Vector, lo(77), lo(78))
	s.Acks = behind(s.Acks, api.Ack{Node: 7, Draw: lo(77), Place: 7})
	s.Marks = behind(s.Marks, api.Mark{Node: 7, Draw: lo(77)})
	s.Ballots = behind(s.Ballots, api.Ballot{Node: 7, Draw: lo(77), Last: 7, Commit: 7, Log: logOf(1)})
	s.Answers = behind(s.Answers, api.Answer{Node: 7, Draw: lo(77), View: 7, Commit: 7, Log: logOf(1)})
	for i := range s.Ballots {
		s.Ballots[i].Log = behind(s.Ballots[i].Log, logOf(2)...)
	}
	for i := range s.Answers {
		s.Answers[i].Log = behind(s.Answers[i].Log, logOf(2)...)
	}
	return s
}

func roomyMsg(m api.Msg) api.Msg {
	m.Log, m.Vector = behind(m.Log, logOf(2)...), behind(m.Vector, lo(77), lo(78))
	return m
}

// both is an answer of two lists that must lie apart.
type both struct {
	State api.State
	Sends []api.Send
}

// everyCall: all calls that answer lists, of these.
func everyCall(c api.Config, s api.State, to int, m api.Msg) map[string]func() any {
	return map[string]func() any{
		"First":  func() any { s, _ := core.First(c, s.Self); return s },
		"Reborn": func() any { s, _ := core.Reborn(c, s.Self, lo(5)); return s },
		"Admit":  func() any { s, _, _ := core.Admit(c, s, m); return s },
		"Wait":   func() any { s, _, _ := core.Wait(c, s); return s },
		"Carry":  func() any { s, l, _ := core.Carry(c, s, to); return both{s, l} },
		"One":    func() any { l, _ := core.One(c, s, api.MaxNodes+to, m); return l },
		"All":    func() any { l, _ := core.All(c, s, m); return l },
	}
}

func TestWhoseMemory(t *testing.T) {
	r := rand.New(rand.NewPCG(9, 20))
	for range 2000 {
		c := pick(r, configs()...)
		s, m := roomy(someState(r, c)), roomyMsg(someMsg(r, c))
		if r.IntN(4) == 0 {
			m = roomyMsg(fullMsg(m.Kind))
		}
		before := dumped(s, m)
		core.Check(c, s)
		core.Alike(s, s)
		for what, call := range everyCall(c, s, r.IntN(len(s.Log)+1), m) {
			got := call()
			want, again := dumped(got), call()
			expectApart(t, what, got, s, m, again)
			spoil(again)
			if dumped(got) != want || dumped(s, m) != before || dumped(call()) != want {
				t.Fatalf("%s: what is spoilt of one answer is seen elsewhere", what)
			}
		}
		if dumped(s, m) != before {
			t.Fatal("what was given is changed")
		}
	}
}

// An answer does not turn with what was given, once that is spoilt.
func TestNothingIsKept(t *testing.T) {
	r := rand.New(rand.NewPCG(9, 21))
	for range 500 {
		c := pick(r, configs()...)
		s, m := roomy(someState(r, c)), roomyMsg(someMsg(r, c))
		for what := range everyCall(c, s, 0, m) {
			s, m := roomy(s), roomyMsg(m)
			got := everyCall(c, s, len(s.Log), m)[what]()
			want := dumped(got)
			spoil(s)
			spoil(m)
			if dumped(got) != want {
				t.Fatal(what, "has turned with what was given")
			}
		}
	}
}

// Lists that were given as one are answered as lists of their own.
func TestSharedListsAreParted(t *testing.T) {
	log := logOf(6)
	s := api.State{Self: 1, Status: api.StatusChange, View: 8, Log: log[:4:6], Vector: make(api.Vector, 7)}
	s.Marks = []api.Mark{{Node: 0}}
	s.Ballots = []api.Ballot{{Node: 0, Log: log[:2]}, {Node: 2, Log: log[:4]}}
	r := api.State{Self: 1, Status: api.StatusRecovering, Vector: make(api.Vector, 7), Answers: []api.Answer{{Node: 0, Log: log}, {Node: 2, View: 2, Log: log[:3]}, {Node: 3, View: 3, Log: log[1:3]}}}
	r.Vector[1] = lo(1)
	for _, s := range []api.State{s, r} {
		if e := core.Check(seven, s); e != api.OK {
			t.Fatal(e)
		}
		for _, kind := range []api.Kind{api.KindNewState, api.KindStartView, api.KindReply, 0} {
			m := api.Msg{Kind: kind, Node: 4, View: 4, Log: log, Vector: s.Vector}
			for what, call := range everyCall(seven, s, 0, m) {
				expectApart(t, what, call(), s, m)
			}
		}
	}
	if dumped(log) != dumped(logOf(6)) {
		t.Error("the given log is changed")
	}
}

// P3 of DOC.md: nil and empty lists are the same as arguments.
func TestNilAndEmpty(t *testing.T) {
	full := func(s api.State) api.State {
		s = own(s)
		if s.Log == nil {
			s.Log = []api.Entry{}
		}
		s.Acks, s.Marks = append([]api.Ack{}, s.Acks...), append([]api.Mark{}, s.Marks...)
		s.Ballots, s.Answers = append([]api.Ballot{}, s.Ballots...), append([]api.Answer{}, s.Answers...)
		for i, b := range s.Ballots {
			s.Ballots[i].Log = append([]api.Entry{}, b.Log...)
		}
		for i, a := range s.Answers {
			s.Answers[i].Log = append([]api.Entry{}, a.Log...)
		}
		return s
	}
	r := rand.New(rand.NewPCG(9, 22))
	for range 2000 {
		c := pick(r, configs()...)
		s, m := someState(r, c), someMsg(r, c)
		other := changedMsg(m, func(m *api.Msg) { m.Log, m.Vector = append([]api.Entry{}, m.Log...), append(api.Vector{}, m.Vector...) })
		if e := core.Check(c, full(s)); e != api.OK {
			t.Fatal(e)
		}
		to := r.IntN(len(s.Log) + 1)
		calls := everyCall(c, full(s), to, other)
		for what, call := range everyCall(c, own(s), to, m) {
			if dumpedLists(call()) != dumpedLists(calls[what]()) {
				t.Fatal(what)
			}
		}
	}
}

// dumpedLists: as dumped, without spare room.
func dumpedLists(thing any) string {
	var b strings.Builder
	eachPart(reflect.ValueOf(thing), func(part reflect.Value) {
		if part.Kind() == reflect.Slice {
			b.WriteString("[" + strconv.Itoa(part.Len()) + "] ")
			return
		}
		dump(part, &b)
	})
	return b.String()
}

// P1 and P5 of DOC.md: every call ends and none panics, whatever it is given, and beside an error there is nothing.
func TestEveryCallEnds(t *testing.T) {
	r := rand.New(rand.NewPCG(9, 23))
	wild := func() int { return pick(r, edges...) }
	for range 20000 {
		c := api.Config{F: wild(), Room: wild(), Patience: wild(), Unguarded: r.IntN(2) == 0}
		if r.IntN(4) > 0 {
			c = pick(r, configs()...)
		}
		s := pick(r, fullState(), api.State{}, someState(r, pick(r, configs()...)))
		m := pick(r, fullMsg(api.Kind(wild())), api.Msg{}, someMsg(r, pick(r, configs()...)))
		for _, thing := range []any{&s, &m} {
			eachPart(reflect.ValueOf(thing).Elem(), func(part reflect.Value) {
				if part.Kind() == reflect.Int && r.IntN(10) == 0 {
					part.SetInt(int64(wild()))
				}
				if part.Kind() == reflect.Slice && r.IntN(20) == 0 {
					part.SetZero()
				}
			})
		}
		core.CheckConfig(c)
		core.Nodes(c)
		core.Primary(c, wild())
		core.First(c, wild())
		core.Reborn(c, wild(), someDraw(r))
		core.Alike(s, fullState())
		if e := wantCheck(c, s); e != api.OK {
			expectErrors(t, c, s, m, wild(), e)
			continue
		}
		core.Admit(c, s, m)
		core.Wait(c, s)
		core.Carry(c, s, wild())
		core.One(c, s, wild(), m)
		core.All(c, s, m)
	}
	core.Check(five, api.State{Log: make([]api.Entry, 100000), Vector: make(api.Vector, 100000), Acks: make([]api.Ack, 100000), Ballots: make([]api.Ballot, 100000)})
	core.Wait(five, api.State{Self: math.MaxInt, Idle: math.MaxInt})
}

// Calls side by side, over the same arguments, answer what they answer alone.
func TestSideBySide(t *testing.T) {
	s, m := aNextPrimary(), msgOf(five, api.KindDoViewChange, 3, los(4, 1, 2, 10, 2))
	want := map[string]string{}
	for what, call := range everyCall(five, s, 3, m) {
		want[what] = dumped(call())
	}
	var wait sync.WaitGroup
	for range 8 {
		wait.Go(func() {
			for what, call := range everyCall(five, s, 3, m) {
				for range 50 {
					if dumped(call()) != want[what] {
						t.Error(what, "answers otherwise")
					}
				}
			}
		})
	}
	wait.Wait()
}
