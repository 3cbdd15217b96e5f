package replica_test

import (
	"math/rand/v2"
	"reflect"
	"strconv"
	"strings"
	"sync"
	"testing"

	"amnesia/api"
	"amnesia/core"
	"amnesia/message"
	"amnesia/replica"
)

// P13.6: P2 of DOC.md: whose memory is whose; two replicas share nothing. P1, P3 and P5 too.

// eachList: every list that a value reaches, those that lie in a list's spare room too.
func eachList(v reflect.Value, visit func(reflect.Value)) {
	switch v.Kind() {
	case reflect.Struct:
		for i := range v.NumField() {
			eachList(v.Field(i), visit)
		}
	case reflect.Slice:
		visit(v)
		whole := v.Slice(0, v.Cap())
		for i := range whole.Len() {
			eachList(whole.Index(i), visit)
		}
	}
}

// eachPart: every number, text and list that a value has, wherever it lies.
func eachPart(v reflect.Value, visit func(reflect.Value)) {
	switch v.Kind() {
	case reflect.Struct:
		for i := range v.NumField() {
			eachPart(v.Field(i), visit)
		}
	case reflect.Slice:
		visit(v)
		for i := range v.Len() {
			eachPart(v.Index(i), visit)
		}
	default:
		visit(v)
	}
}

// span is a piece of memory: of lists that have room for nothing there is none.
type span struct{ from, to uintptr }

func spans(things ...any) []span {
	var l []span
	for _, thing := range things {
		eachList(reflect.ValueOf(thing), func(list reflect.Value) {
			if list.Cap() > 0 {
				l = append(l, span{list.Pointer(), list.Pointer() + uintptr(list.Cap())*list.Type().Elem().Size()})
			}
		})
	}
	return l
}

// expectApart: no list of an answer lies over another one of it, nor over one of what was given.
func expectApart(t *testing.T, what string, answer any, given ...any) {
	t.Helper()
	mine, theirs := spans(answer), spans(given...)
	for i, a := range mine {
		for _, b := range append(theirs, mine[:i]...) {
			if a.from < b.to && b.from < a.to {
				t.Fatalf("%s: an answer lies over something else: %+v", what, answer)
			}
		}
	}
}

// dump: all that a value reaches as text; with spare room, if it is asked for.
func dump(v reflect.Value, spare bool, b *strings.Builder) {
	switch v.Kind() {
	case reflect.Struct:
		for i := range v.NumField() {
			dump(v.Field(i), spare, b)
		}
	case reflect.Slice:
		b.WriteString("[" + strconv.Itoa(v.Len()) + ":")
		if spare {
			v = v.Slice(0, v.Cap())
		}
		for i := range v.Len() {
			dump(v.Index(i), spare, b)
		}
		b.WriteString("]")
	case reflect.String:
		b.WriteString(strconv.Quote(v.String()))
	case reflect.Bool:
		b.WriteString(strconv.FormatBool(v.Bool()))
	case reflect.Uint64, reflect.Uint8:
		b.WriteString(strconv.FormatUint(v.Uint(), 10) + " ")
	default:
		b.WriteString(strconv.FormatInt(v.Int(), 10) + " ")
	}
}

func dumped(spare bool, things ...any) string {
	var b strings.Builder
	for _, thing := range things {
		dump(reflect.ValueOf(thing), spare, &b)
	}
	return b.String()
}

// spoil writes over all that a value's lists reach, their spare room too.
func spoil(things ...any) {
	for _, thing := range things {
		eachList(reflect.ValueOf(thing), func(list reflect.Value) {
			whole := list.Slice(0, list.Cap())
			for i := range whole.Len() {
				eachPart(whole.Index(i), spoilPart)
			}
		})
	}
}

func spoilPart(part reflect.Value) {
	switch part.Kind() {
	case reflect.Int:
		part.SetInt(-99)
	case reflect.Uint64, reflect.Uint8:
		part.SetUint(99)
	case reflect.String:
		part.SetString("spoilt")
	case reflect.Bool:
		part.SetBool(!part.Bool())
	}
}

func behind[E any](l []E, more ...E) []E {
	return append(append(make([]E, 0, len(l)+len(more)), l...), more...)[:len(l)]
}

// roomy: the state with room behind all its lists, and something in it.
func roomy(s api.State) api.State {
	s = own(s)
	s.Log, s.Vector = behind(s.Log, logOf(2)...), behind(s.Vector, lo(77), lo(78))
	s.Acks = behind(s.Acks, api.Ack{Node: 7, Draw: lo(77), Place: 7})
	s.Marks = behind(s.Marks, api.Mark{Node: 7, Draw: lo(77)})
	s.Ballots = behind(s.Ballots, api.Ballot{Node: 7, Draw: lo(77), Last: 7, Commit: 7, Log: logOf(1)})
	s.Answers = behind(s.Answers, api.Answer{Node: 7, Draw: lo(77), View: 7, Commit: 7, Log: logOf(1)})
	for i := range s.Ballots {
		s.Ballots[i].Log = behind(s.Ballots[i].Log, logOf(2)...)
	}
	for i := range s.Answers {
		s.Answers[i].Log = behind(s.Answers[i].Log, logOf(2)...)
	}
	return s
}

// looks: all that a replica answers without a step.
type looks struct {
	State api.State
	Cells []api.Cell
	Rows  []api.Row
}

func look(r *replica.Replica) looks { return looks{r.State(), r.Cells(), r.Rows()} }

// does: a tick, or a frame that comes; it may be one that does not decode.
func does(r *replica.Replica, m api.Msg, b []byte) []api.Packet {
	if m.Kind == ticking {
		l, _ := r.Tick()
		return l
	}
	l, _ := r.Handle(b)
	return l
}

// Two twins: of one all that it is given and all that it answers is written over, call by call. Both answer the same all along, and no answer lies over another one.
func TestWhoseMemory(t *testing.T) {
	r := rand.New(rand.NewPCG(13, 11))
	for range 1500 {
		c := pick(r, configs()...)
		s := roomy(someState(r, c))
		before := dumped(true, s)
		one, two := with(t, c, s), with(t, c, s)
		if dumped(true, s) != before {
			t.Fatal("what was given is changed")
		}
		expectApart(t, "from", look(one), look(two), look(one), s)
		spoil(s)
		for range 8 {
			seen, other := look(one), look(two)
			if dumped(false, seen) != dumped(false, other) {
				t.Fatalf("%+v and %+v", seen, other)
			}
			m := someCall(r, c, own(seen.State))
			var given []byte
			if m.Kind != ticking {
				given = behind(frame(t, c, m), 1, 2, 3)
				given[r.IntN(len(given))] ^= pick(r, byte(0), 0, 0, 1)
			}
			kept := dumped(true, given)
			l, k := does(one, m, given), does(two, m, given)
			if dumped(false, l) != dumped(false, k) || dumped(true, given) != kept {
				t.Fatalf("%+v and %+v, of %v", l, k, given)
			}
			expectApart(t, "packets", l, k, given, seen, other, look(one), look(two))
			expectApart(t, "looks", look(one), look(one), look(two), l, k, given, seen)
			spoil(look(one), seen, l, given)
		}
	}
}

// What Restart sends is nobody else's.
func TestWhoseMemoryAtRestart(t *testing.T) {
	for _, c := range configs() {
		one, l := again(t, c, 1, lo(4))
		two, k := again(t, c, 1, lo(4))
		want, seen := dumped(false, look(two)), dumped(false, k)
		expectApart(t, "restart", l, k, look(one), look(two))
		spoil(l, look(one))
		if dumped(false, look(two)) != want || dumped(false, look(one)) != want || dumped(false, k) != seen {
			t.Fatal(look(one), look(two))
		}
		if dumped(false, tick(t, one)) != seen {
			t.Fatal("what is sent again is another one")
		}
	}
}

// Lists that were given as one are lists of their own in the replica.
func TestSharedListsAreParted(t *testing.T) {
	log, v := logOf(6), make(api.Vector, 7)
	v[3] = lo(5)
	s := api.State{Self: 3, Status: api.StatusRecovering, Vector: v, Answers: []api.Answer{{Node: 0, View: 7, Log: log[:2]}, {Node: 1, View: 1, Log: log[:4]}, {Node: 2, View: 6}}}
	r := with(t, seven, s)
	expectApart(t, "shared", look(r), s)
	m := api.Msg{Kind: api.KindRecoveryResponse, Node: 4, View: 4, Draw: lo(5), Log: log[:5], Vector: v}
	handle(t, r, seven, m) // another one's log is taken over
	expectApart(t, "returned", look(r), s, m)
	if dumped(true, log) != dumped(true, logOf(6)) || len(r.State().Log) != 2 {
		t.Error(r.State(), log)
	}
}

// Replicas of one state: what one does is not seen at the others, nor at a copy of the object.
func TestReplicasShareNothing(t *testing.T) {
	r := rand.New(rand.NewPCG(13, 12))
	for range 500 {
		c := pick(r, configs()...)
		s := someState(r, c)
		mover, stayer := with(t, c, s), with(t, c, s)
		for range 10 {
			other := *mover
			want := dumped(false, look(mover))
			m := someCall(r, c, own(mover.State()))
			if m.Kind == ticking {
				tick(t, mover)
			} else {
				handle(t, mover, c, m)
			}
			if dumped(false, look(&other)) != want {
				t.Fatalf("%+v goes along", other.State())
			}
			expectLooks(t, "the one that stays", stayer, s)
		}
	}
}

// Several replicas by turns, and each on a goroutine of its own: each answers what it answers alone.
func TestSideBySide(t *testing.T) {
	const many = 12
	script := func(at int) func() (string, bool) { // one step of replica number at, till there are no more
		r := rand.New(rand.NewPCG(13, uint64(100+at)))
		c := pick(r, configs()...)
		made := some(t, r, c)
		steps := 0
		return func() (string, bool) {
			m := someCall(r, c, own(made.State()))
			var b []byte
			if m.Kind != ticking {
				b, _ = message.Encode(c, m)
			}
			steps++
			return dumped(false, does(made, m, b), look(made)), steps < 80
		}
	}
	run := func(step func() (string, bool)) string {
		seen := ""
		for more := true; more; {
			var s string
			s, more = step()
			seen += s
		}
		return seen
	}
	var want, byTurns, beside [many]string
	for at := range want {
		want[at] = run(script(at))
	}
	var steps [many]func() (string, bool)
	for at := range steps {
		steps[at] = script(at)
	}
	for range 80 {
		for at, step := range steps {
			s, _ := step()
			byTurns[at] += s
		}
	}
	var wait sync.WaitGroup
	for at := range beside {
		wait.Go(func() { beside[at] = run(script(at)) })
	}
	wait.Wait()
	if byTurns != want || beside != want {
		t.Error("they answer otherwise side by side")
	}
}

// P3 of DOC.md: nil and empty lists are the same as arguments.
func TestNilAndEmpty(t *testing.T) {
	full := func(s api.State) api.State {
		s = own(s)
		s.Log = append([]api.Entry{}, s.Log...)
		s.Acks, s.Marks = append([]api.Ack{}, s.Acks...), append([]api.Mark{}, s.Marks...)
		s.Ballots, s.Answers = append([]api.Ballot{}, s.Ballots...), append([]api.Answer{}, s.Answers...)
		for i, b := range s.Ballots {
			s.Ballots[i].Log = append([]api.Entry{}, b.Log...)
		}
		for i, a := range s.Answers {
			s.Answers[i].Log = append([]api.Entry{}, a.Log...)
		}
		return s
	}
	r := rand.New(rand.NewPCG(13, 13))
	for range 2000 {
		c := pick(r, configs()...)
		s := someState(r, c)
		one, two := with(t, c, own(s)), with(t, c, full(s))
		m := someCall(r, c, s)
		var b []byte
		if m.Kind != ticking {
			b = frame(t, c, m)
		}
		if dumped(false, does(one, m, b), look(one)) != dumped(false, does(two, m, b), look(two)) {
			t.Fatalf("%+v at %+v", m, s)
		}
	}
	made := first(t, three, 0)
	_, e := made.Handle(nil)
	if _, other := made.Handle([]byte{}); e != other {
		t.Error(e, other)
	}
}

// P1 and P5 of DOC.md: every call ends and none panics, whatever it is given, and beside an error there is nothing.
func TestEveryCallEnds(t *testing.T) {
	r := rand.New(rand.NewPCG(13, 14))
	wild := func() int { return pick(r, edges...) }
	met := make(map[api.Errno]int)
	for range 20000 {
		c := api.Config{F: wild(), Room: wild(), Patience: wild(), Unguarded: r.IntN(2) == 0}
		if r.IntN(8) > 0 {
			c = pick(r, configs()...)
		}
		group := pick(r, configs()...)
		if core.CheckConfig(c) == api.OK {
			group = c
		}
		s := someState(r, group)
		if r.IntN(2) == 0 {
			eachPart(reflect.ValueOf(&s).Elem(), func(part reflect.Value) {
				if part.Kind() == reflect.Int && r.IntN(10) == 0 {
					part.SetInt(int64(wild()))
				}
				if part.Kind() == reflect.Slice && r.IntN(20) == 0 {
					part.SetZero()
				}
			})
		}
		made, e := replica.From(c, s)
		if want := core.Check(c, s); e != want || (e != api.OK) != (made == nil) {
			t.Fatalf("%d, want %d: %v", e, want, made)
		}
		met[e]++
		if e == api.OK {
			expectLooks(t, "wild", made, s)
		}
		self, draw := pick(r, wild(), r.IntN(7)), someDraw(r)
		_, want := core.First(c, self)
		if made, e := replica.New(c, self); e != want || (e != api.OK) != (made == nil) {
			t.Fatalf("%d, want %d: %v", e, want, made)
		}
		_, want = core.Reborn(c, self, draw)
		met[want]++
		if made, l, e := replica.Restart(c, self, draw); e != want || (e != api.OK) != (made == nil) || (e != api.OK) != (len(l) == 0) {
			t.Fatalf("%d, want %d: %v %v", e, want, made, l)
		}
	}
	for _, e := range []api.Errno{api.OK, api.ErrConfig, api.ErrState, api.ErrArg} {
		if met[e] < 500 {
			t.Error("too few:", e, met)
		}
	}
}
